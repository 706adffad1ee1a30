/-
  No cell of these rows narrows 'for every input' (looked for: loops, veiled, ifaces, maps, wideKeys, modest, calm, conditions, laid).
  DERIVED. THE GIVEN ROWS OF THIS SEAT. 8 by the template 'for every input the law returns true; each argument reads behind the call as it read before'; 0 by the template 'total and deterministic' (their statements: YtlnohpdiiileeaaGreatTotals.lean).
  GIVEN WITH THE SEED: the statements are not yours to turn. If you find one false, say at which input.
  Laid BY PROGRAM, IN A SANDBOX (cutbox-rows.mjs): the forced cells as the released guide's own fill.sh prints them over the translation c0b19f1b3bd9d22c… (all of the seat's roots in one cut). By AI agents, Wed Nov 11 2026. No macro, syntax, notation, axiom, sorry.
-/
import Derived.Test.YtlnohpdiiileeaaGreatChecked
import GoSem.Claim
import GoSem.ClaimJoined
import GoSem.ClaimMapViews
import Derived.JoinedTies
import Derived.KernelRfl
namespace Go.Proofs.YtlnohpdiiileeaaGreat
/- THE CELL 'sum', in the pinned program and in every row, IS THE sha256 OF THE DUMP (.gsa) THAT YtlnohpdiiileeaaGreatProg.lean LOADS. Nothing in Lean hashes anything: it is a label: what it is worth is what the hold of that sum in a sandbox is worth. -/
noncomputable def Tryz.pinned : Pinned := { name := "ytlnohpdiiileeaagreat", sum := "c0b19f1b3bd9d22c008934691f92ce01da223566e37b116a0722f0f519242a7c", checked := Tryz.checked }
namespace Rows
def none {H : Type} : Left H := { results := [], args := [] }

/-- 'laws.FnExactExported': WHATEVER THE INPUT: true; the input reads as it did. -/
def fnExactExportedSpec : ChangeSpec := { name := "fnExactExported", fn := fun _ => fun
  | [d1, d2] => { results := [.lit (.bool true)], args := [d1, d2] }
  | _ => none }
def fnExactExportedRow : OpenClaim := { program := "ytlnohpdiiileeaagreat", sum := "c0b19f1b3bd9d22c008934691f92ce01da223566e37b116a0722f0f519242a7c", func := "loop.example/g00777/laws.FnExactExported", spec := "fnExactExported", inPlace := ["internal/bytealg.IndexByteString", "internal/abi.NoEscape", "internal/bytealg.MakeNoZero"], unfollowed := true, recurses := true, plainKeys := false, apart := false }
def FnExactExportedSaid : Prop := fnExactExportedRow.holds Tryz.pinned (OpenSpec.ofChange fnExactExportedSpec)

/-- ITS FALSE NEIGHBOUR: 'it returns false'. Refute it at one input. -/
def fnExactExportedWrong : ChangeSpec := { name := "fnExactExported", fn := fun _ => fun
  | [d1, d2] => { results := [.lit (.bool false)], args := [d1, d2] }
  | _ => none }
def FnExactExportedWrongFalsely : Prop := fnExactExportedRow.holds Tryz.pinned (OpenSpec.ofChange fnExactExportedWrong)

/-- 'laws.FnExactResolveExport': WHATEVER THE INPUT: true; the input reads as it did. -/
def fnExactResolveExportSpec : ChangeSpec := { name := "fnExactResolveExport", fn := fun _ => fun
  | [d1, d2, d3] => { results := [.lit (.bool true)], args := [d1, d2, d3] }
  | _ => none }
def fnExactResolveExportRow : OpenClaim := { program := "ytlnohpdiiileeaagreat", sum := "c0b19f1b3bd9d22c008934691f92ce01da223566e37b116a0722f0f519242a7c", func := "loop.example/g00777/laws.FnExactResolveExport", spec := "fnExactResolveExport", inPlace := ["internal/bytealg.IndexByteString", "internal/abi.NoEscape", "internal/bytealg.MakeNoZero"], unfollowed := true, recurses := true, plainKeys := false, apart := false }
def FnExactResolveExportSaid : Prop := fnExactResolveExportRow.holds Tryz.pinned (OpenSpec.ofChange fnExactResolveExportSpec)

/-- ITS FALSE NEIGHBOUR: 'it returns false'. Refute it at one input. -/
def fnExactResolveExportWrong : ChangeSpec := { name := "fnExactResolveExport", fn := fun _ => fun
  | [d1, d2, d3] => { results := [.lit (.bool false)], args := [d1, d2, d3] }
  | _ => none }
def FnExactResolveExportWrongFalsely : Prop := fnExactResolveExportRow.holds Tryz.pinned (OpenSpec.ofChange fnExactResolveExportWrong)

/-- 'laws.FnExactLinkFault': WHATEVER THE INPUT: true; the input reads as it did. -/
def fnExactLinkFaultSpec : ChangeSpec := { name := "fnExactLinkFault", fn := fun _ => fun
  | [d] => { results := [.lit (.bool true)], args := [d] }
  | _ => none }
def fnExactLinkFaultRow : OpenClaim := { program := "ytlnohpdiiileeaagreat", sum := "c0b19f1b3bd9d22c008934691f92ce01da223566e37b116a0722f0f519242a7c", func := "loop.example/g00777/laws.FnExactLinkFault", spec := "fnExactLinkFault", inPlace := ["internal/bytealg.IndexByteString", "internal/abi.NoEscape", "internal/bytealg.MakeNoZero"], unfollowed := true, recurses := true, plainKeys := false, apart := false }
def FnExactLinkFaultSaid : Prop := fnExactLinkFaultRow.holds Tryz.pinned (OpenSpec.ofChange fnExactLinkFaultSpec)

/-- ITS FALSE NEIGHBOUR: 'it returns false'. Refute it at one input. -/
def fnExactLinkFaultWrong : ChangeSpec := { name := "fnExactLinkFault", fn := fun _ => fun
  | [d] => { results := [.lit (.bool false)], args := [d] }
  | _ => none }
def FnExactLinkFaultWrongFalsely : Prop := fnExactLinkFaultRow.holds Tryz.pinned (OpenSpec.ofChange fnExactLinkFaultWrong)

/-- 'laws.FnExports': WHATEVER THE INPUT: true; the input reads as it did. -/
def fnExportsSpec : ChangeSpec := { name := "fnExports", fn := fun _ => fun
  | [d] => { results := [.lit (.bool true)], args := [d] }
  | _ => none }
def fnExportsRow : OpenClaim := { program := "ytlnohpdiiileeaagreat", sum := "c0b19f1b3bd9d22c008934691f92ce01da223566e37b116a0722f0f519242a7c", func := "loop.example/g00777/laws.FnExports", spec := "fnExports", inPlace := ["internal/bytealg.IndexByteString", "internal/abi.NoEscape", "internal/bytealg.MakeNoZero"], unfollowed := true, recurses := true, plainKeys := false, apart := false }
def FnExportsSaid : Prop := fnExportsRow.holds Tryz.pinned (OpenSpec.ofChange fnExportsSpec)

/-- ITS FALSE NEIGHBOUR: 'it returns false'. Refute it at one input. -/
def fnExportsWrong : ChangeSpec := { name := "fnExports", fn := fun _ => fun
  | [d] => { results := [.lit (.bool false)], args := [d] }
  | _ => none }
def FnExportsWrongFalsely : Prop := fnExportsRow.holds Tryz.pinned (OpenSpec.ofChange fnExportsWrong)

/-- 'laws.FnExactGraphOk': WHATEVER THE INPUT: true; the input reads as it did. -/
def fnExactGraphOkSpec : ChangeSpec := { name := "fnExactGraphOk", fn := fun _ => fun
  | [d] => { results := [.lit (.bool true)], args := [d] }
  | _ => none }
def fnExactGraphOkRow : OpenClaim := { program := "ytlnohpdiiileeaagreat", sum := "c0b19f1b3bd9d22c008934691f92ce01da223566e37b116a0722f0f519242a7c", func := "loop.example/g00777/laws.FnExactGraphOk", spec := "fnExactGraphOk", inPlace := ["internal/bytealg.IndexByteString", "internal/abi.NoEscape", "internal/bytealg.MakeNoZero"], unfollowed := true, recurses := true, plainKeys := false, apart := false }
def FnExactGraphOkSaid : Prop := fnExactGraphOkRow.holds Tryz.pinned (OpenSpec.ofChange fnExactGraphOkSpec)

/-- ITS FALSE NEIGHBOUR: 'it returns false'. Refute it at one input. -/
def fnExactGraphOkWrong : ChangeSpec := { name := "fnExactGraphOk", fn := fun _ => fun
  | [d] => { results := [.lit (.bool false)], args := [d] }
  | _ => none }
def FnExactGraphOkWrongFalsely : Prop := fnExactGraphOkRow.holds Tryz.pinned (OpenSpec.ofChange fnExactGraphOkWrong)

/-- 'laws.FnExactOrder': WHATEVER THE INPUT: true; the input reads as it did. -/
def fnExactOrderSpec : ChangeSpec := { name := "fnExactOrder", fn := fun _ => fun
  | [d] => { results := [.lit (.bool true)], args := [d] }
  | _ => none }
def fnExactOrderRow : OpenClaim := { program := "ytlnohpdiiileeaagreat", sum := "c0b19f1b3bd9d22c008934691f92ce01da223566e37b116a0722f0f519242a7c", func := "loop.example/g00777/laws.FnExactOrder", spec := "fnExactOrder", inPlace := ["internal/bytealg.IndexByteString", "internal/abi.NoEscape", "internal/bytealg.MakeNoZero"], unfollowed := true, recurses := true, plainKeys := false, apart := false }
def FnExactOrderSaid : Prop := fnExactOrderRow.holds Tryz.pinned (OpenSpec.ofChange fnExactOrderSpec)

/-- ITS FALSE NEIGHBOUR: 'it returns false'. Refute it at one input. -/
def fnExactOrderWrong : ChangeSpec := { name := "fnExactOrder", fn := fun _ => fun
  | [d] => { results := [.lit (.bool false)], args := [d] }
  | _ => none }
def FnExactOrderWrongFalsely : Prop := fnExactOrderRow.holds Tryz.pinned (OpenSpec.ofChange fnExactOrderWrong)

/-- 'laws.FnOrder': WHATEVER THE INPUT: true; the input reads as it did. -/
def fnOrderSpec : ChangeSpec := { name := "fnOrder", fn := fun _ => fun
  | [d] => { results := [.lit (.bool true)], args := [d] }
  | _ => none }
def fnOrderRow : OpenClaim := { program := "ytlnohpdiiileeaagreat", sum := "c0b19f1b3bd9d22c008934691f92ce01da223566e37b116a0722f0f519242a7c", func := "loop.example/g00777/laws.FnOrder", spec := "fnOrder", inPlace := ["internal/bytealg.IndexByteString", "internal/abi.NoEscape", "internal/bytealg.MakeNoZero"], unfollowed := true, recurses := true, plainKeys := false, apart := false }
def FnOrderSaid : Prop := fnOrderRow.holds Tryz.pinned (OpenSpec.ofChange fnOrderSpec)

/-- ITS FALSE NEIGHBOUR: 'it returns false'. Refute it at one input. -/
def fnOrderWrong : ChangeSpec := { name := "fnOrder", fn := fun _ => fun
  | [d] => { results := [.lit (.bool false)], args := [d] }
  | _ => none }
def FnOrderWrongFalsely : Prop := fnOrderRow.holds Tryz.pinned (OpenSpec.ofChange fnOrderWrong)

/-- 'laws.FnParse': WHATEVER THE INPUT: true; the input reads as it did. -/
def fnParseSpec : ChangeSpec := { name := "fnParse", fn := fun _ => fun
  | [d] => { results := [.lit (.bool true)], args := [d] }
  | _ => none }
def fnParseRow : OpenClaim := { program := "ytlnohpdiiileeaagreat", sum := "c0b19f1b3bd9d22c008934691f92ce01da223566e37b116a0722f0f519242a7c", func := "loop.example/g00777/laws.FnParse", spec := "fnParse", inPlace := ["internal/bytealg.IndexByteString", "internal/abi.NoEscape"], unfollowed := true, recurses := true, plainKeys := false, apart := false }
def FnParseSaid : Prop := fnParseRow.holds Tryz.pinned (OpenSpec.ofChange fnParseSpec)

/-- ITS FALSE NEIGHBOUR: 'it returns false'. Refute it at one input. -/
def fnParseWrong : ChangeSpec := { name := "fnParse", fn := fun _ => fun
  | [d] => { results := [.lit (.bool false)], args := [d] }
  | _ => none }
def FnParseWrongFalsely : Prop := fnParseRow.holds Tryz.pinned (OpenSpec.ofChange fnParseWrong)

/- THE SECOND FORM. 'bulk': how many values and letters a reading holds, each counted each time it is reached (what is shared counts as often as it is met; a slice's spare places count too). A statement '..UptoSaid' is the law's where the arguments, and the package variables that the reading takes, are together of bulk at most 1048576: NARROWER than '..Said'. Prove '..Said' where nothing that the law and all that it calls make is longer than what came in: it says more and counts as full. Else prove '..UptoSaid'. A law counts once. -/
mutual
def uptoBulk {H : Type} : DataW H → Nat
  | .lit (.string bytes) => bytes.length + 1
  | .lit _ => 1
  | .nil => 1
  | .ptr d => uptoBulk d + 1
  | .slice elems spare => uptoBulkAll elems + uptoBulkAll spare + 1
  | .agg parts => uptoBulkAll parts + 1
  | .iface _ d => uptoBulk d + 1
  | .map entries => uptoBulkEntries entries + 1
  | .held _ => 1
def uptoBulkAll {H : Type} : List (DataW H) → Nat
  | [] => 0
  | d :: r => uptoBulk d + uptoBulkAll r
def uptoBulkEntries {H : Type} : List (Lit × DataW H) → Nat
  | [] => 0
  | x :: r => uptoBulkEntry x + uptoBulkEntries r
def uptoBulkEntry {H : Type} : Lit × DataW H → Nat
  | (.string bytes, d) => bytes.length + uptoBulk d + 1
  | (_, d) => uptoBulk d + 1
 end
def uptoSmall : (H : Type) → List (DataW H) → Bool := fun _ ds => decide (uptoBulkAll ds ≤ 1048576)
def OpenSpec.upto (s : _root_.Go.ChangeSpec) : _root_.Go.OpenSpec := { _root_.Go.OpenSpec.ofChange s with cond := some uptoSmall }

/-- 'laws.FnExactExported', WHERE WHAT IT READS IS OF BULK AT MOST 1048576: true; the input reads as it did. -/
def fnExactExportedUptoRow : OpenClaim := { program := "ytlnohpdiiileeaagreat", sum := "c0b19f1b3bd9d22c008934691f92ce01da223566e37b116a0722f0f519242a7c", func := "loop.example/g00777/laws.FnExactExported", spec := "fnExactExported", inPlace := ["internal/bytealg.IndexByteString", "internal/abi.NoEscape", "internal/bytealg.MakeNoZero"], unfollowed := true, recurses := true, plainKeys := false, apart := false, narrowed := true }
def FnExactExportedUptoSaid : Prop := fnExactExportedUptoRow.holds Tryz.pinned (OpenSpec.upto fnExactExportedSpec)

/-- 'laws.FnExactResolveExport', WHERE WHAT IT READS IS OF BULK AT MOST 1048576: true; the input reads as it did. -/
def fnExactResolveExportUptoRow : OpenClaim := { program := "ytlnohpdiiileeaagreat", sum := "c0b19f1b3bd9d22c008934691f92ce01da223566e37b116a0722f0f519242a7c", func := "loop.example/g00777/laws.FnExactResolveExport", spec := "fnExactResolveExport", inPlace := ["internal/bytealg.IndexByteString", "internal/abi.NoEscape", "internal/bytealg.MakeNoZero"], unfollowed := true, recurses := true, plainKeys := false, apart := false, narrowed := true }
def FnExactResolveExportUptoSaid : Prop := fnExactResolveExportUptoRow.holds Tryz.pinned (OpenSpec.upto fnExactResolveExportSpec)

/-- 'laws.FnExactLinkFault', WHERE WHAT IT READS IS OF BULK AT MOST 1048576: true; the input reads as it did. -/
def fnExactLinkFaultUptoRow : OpenClaim := { program := "ytlnohpdiiileeaagreat", sum := "c0b19f1b3bd9d22c008934691f92ce01da223566e37b116a0722f0f519242a7c", func := "loop.example/g00777/laws.FnExactLinkFault", spec := "fnExactLinkFault", inPlace := ["internal/bytealg.IndexByteString", "internal/abi.NoEscape", "internal/bytealg.MakeNoZero"], unfollowed := true, recurses := true, plainKeys := false, apart := false, narrowed := true }
def FnExactLinkFaultUptoSaid : Prop := fnExactLinkFaultUptoRow.holds Tryz.pinned (OpenSpec.upto fnExactLinkFaultSpec)

/-- 'laws.FnExports', WHERE WHAT IT READS IS OF BULK AT MOST 1048576: true; the input reads as it did. -/
def fnExportsUptoRow : OpenClaim := { program := "ytlnohpdiiileeaagreat", sum := "c0b19f1b3bd9d22c008934691f92ce01da223566e37b116a0722f0f519242a7c", func := "loop.example/g00777/laws.FnExports", spec := "fnExports", inPlace := ["internal/bytealg.IndexByteString", "internal/abi.NoEscape", "internal/bytealg.MakeNoZero"], unfollowed := true, recurses := true, plainKeys := false, apart := false, narrowed := true }
def FnExportsUptoSaid : Prop := fnExportsUptoRow.holds Tryz.pinned (OpenSpec.upto fnExportsSpec)

/-- 'laws.FnExactGraphOk', WHERE WHAT IT READS IS OF BULK AT MOST 1048576: true; the input reads as it did. -/
def fnExactGraphOkUptoRow : OpenClaim := { program := "ytlnohpdiiileeaagreat", sum := "c0b19f1b3bd9d22c008934691f92ce01da223566e37b116a0722f0f519242a7c", func := "loop.example/g00777/laws.FnExactGraphOk", spec := "fnExactGraphOk", inPlace := ["internal/bytealg.IndexByteString", "internal/abi.NoEscape", "internal/bytealg.MakeNoZero"], unfollowed := true, recurses := true, plainKeys := false, apart := false, narrowed := true }
def FnExactGraphOkUptoSaid : Prop := fnExactGraphOkUptoRow.holds Tryz.pinned (OpenSpec.upto fnExactGraphOkSpec)

/-- 'laws.FnExactOrder', WHERE WHAT IT READS IS OF BULK AT MOST 1048576: true; the input reads as it did. -/
def fnExactOrderUptoRow : OpenClaim := { program := "ytlnohpdiiileeaagreat", sum := "c0b19f1b3bd9d22c008934691f92ce01da223566e37b116a0722f0f519242a7c", func := "loop.example/g00777/laws.FnExactOrder", spec := "fnExactOrder", inPlace := ["internal/bytealg.IndexByteString", "internal/abi.NoEscape", "internal/bytealg.MakeNoZero"], unfollowed := true, recurses := true, plainKeys := false, apart := false, narrowed := true }
def FnExactOrderUptoSaid : Prop := fnExactOrderUptoRow.holds Tryz.pinned (OpenSpec.upto fnExactOrderSpec)

/-- 'laws.FnOrder', WHERE WHAT IT READS IS OF BULK AT MOST 1048576: true; the input reads as it did. -/
def fnOrderUptoRow : OpenClaim := { program := "ytlnohpdiiileeaagreat", sum := "c0b19f1b3bd9d22c008934691f92ce01da223566e37b116a0722f0f519242a7c", func := "loop.example/g00777/laws.FnOrder", spec := "fnOrder", inPlace := ["internal/bytealg.IndexByteString", "internal/abi.NoEscape", "internal/bytealg.MakeNoZero"], unfollowed := true, recurses := true, plainKeys := false, apart := false, narrowed := true }
def FnOrderUptoSaid : Prop := fnOrderUptoRow.holds Tryz.pinned (OpenSpec.upto fnOrderSpec)

/-- 'laws.FnParse', WHERE WHAT IT READS IS OF BULK AT MOST 1048576: true; the input reads as it did. -/
def fnParseUptoRow : OpenClaim := { program := "ytlnohpdiiileeaagreat", sum := "c0b19f1b3bd9d22c008934691f92ce01da223566e37b116a0722f0f519242a7c", func := "loop.example/g00777/laws.FnParse", spec := "fnParse", inPlace := ["internal/bytealg.IndexByteString", "internal/abi.NoEscape"], unfollowed := true, recurses := true, plainKeys := false, apart := false, narrowed := true }
def FnParseUptoSaid : Prop := fnParseUptoRow.holds Tryz.pinned (OpenSpec.upto fnParseSpec)

end Rows
end Go.Proofs.YtlnohpdiiileeaaGreat
