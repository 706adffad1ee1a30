/-
  No cell of these rows narrows 'for every input' (looked for: loops, veiled, ifaces, maps, wideKeys, modest, calm, conditions, laid).
  DERIVED. THE GIVEN ROWS OF THIS SEAT. 7 by the template 'for every input the law returns true; each argument reads behind the call as it read before'; 0 by the template 'total and deterministic' (their statements: YtegdaafmaookjaaGreatTotals.lean).
  GIVEN WITH THE SEED: the statements are not yours to turn. If you find one false, say at which input.
  Laid BY PROGRAM, IN A SANDBOX (cutbox-rows.mjs): the forced cells as the released guide's own fill.sh prints them over the translation 8484f64c289727cb… (all of the seat's roots in one cut). By AI agents, Wed Nov 11 2026. No macro, syntax, notation, axiom, sorry.
-/
import Derived.Test.YtegdaafmaookjaaGreatChecked
import GoSem.Claim
import GoSem.ClaimJoined
import GoSem.ClaimMapViews
import Derived.JoinedTies
import Derived.KernelRfl
namespace Go.Proofs.YtegdaafmaookjaaGreat
/- THE CELL 'sum', in the pinned program and in every row, IS THE sha256 OF THE DUMP (.gsa) THAT YtegdaafmaookjaaGreatProg.lean LOADS. Nothing in Lean hashes anything: it is a label: what it is worth is what the hold of that sum in a sandbox is worth. -/
noncomputable def Tryz.pinned : Pinned := { name := "ytegdaafmaookjaagreat", sum := "8484f64c289727cbb8ed0e104523a43b8c1582f76b897eca28cce7d86a85c509", checked := Tryz.checked }
namespace Rows
def none {H : Type} : Left H := { results := [], args := [] }

/-- 'laws.FnExactGraphOk': WHATEVER THE INPUT: true; the input reads as it did. -/
def fnExactGraphOkSpec : ChangeSpec := { name := "fnExactGraphOk", fn := fun _ => fun
  | [d] => { results := [.lit (.bool true)], args := [d] }
  | _ => none }
def fnExactGraphOkRow : OpenClaim := { program := "ytegdaafmaookjaagreat", sum := "8484f64c289727cbb8ed0e104523a43b8c1582f76b897eca28cce7d86a85c509", func := "loop.example/g00777/laws.FnExactGraphOk", spec := "fnExactGraphOk", inPlace := ["internal/bytealg.IndexByteString", "internal/abi.NoEscape", "internal/bytealg.MakeNoZero"], unfollowed := true, recurses := true, plainKeys := false, apart := false }
def FnExactGraphOkSaid : Prop := fnExactGraphOkRow.holds Tryz.pinned (OpenSpec.ofChange fnExactGraphOkSpec)

/-- ITS FALSE NEIGHBOUR: 'it returns false'. Refute it at one input. -/
def fnExactGraphOkWrong : ChangeSpec := { name := "fnExactGraphOk", fn := fun _ => fun
  | [d] => { results := [.lit (.bool false)], args := [d] }
  | _ => none }
def FnExactGraphOkWrongFalsely : Prop := fnExactGraphOkRow.holds Tryz.pinned (OpenSpec.ofChange fnExactGraphOkWrong)

/-- 'laws.FnExactAcyclic': WHATEVER THE INPUT: true; the input reads as it did. -/
def fnExactAcyclicSpec : ChangeSpec := { name := "fnExactAcyclic", fn := fun _ => fun
  | [d] => { results := [.lit (.bool true)], args := [d] }
  | _ => none }
def fnExactAcyclicRow : OpenClaim := { program := "ytegdaafmaookjaagreat", sum := "8484f64c289727cbb8ed0e104523a43b8c1582f76b897eca28cce7d86a85c509", func := "loop.example/g00777/laws.FnExactAcyclic", spec := "fnExactAcyclic", inPlace := ["internal/bytealg.IndexByteString", "internal/abi.NoEscape", "internal/bytealg.MakeNoZero"], unfollowed := true, recurses := true, plainKeys := false, apart := false }
def FnExactAcyclicSaid : Prop := fnExactAcyclicRow.holds Tryz.pinned (OpenSpec.ofChange fnExactAcyclicSpec)

/-- ITS FALSE NEIGHBOUR: 'it returns false'. Refute it at one input. -/
def fnExactAcyclicWrong : ChangeSpec := { name := "fnExactAcyclic", fn := fun _ => fun
  | [d] => { results := [.lit (.bool false)], args := [d] }
  | _ => none }
def FnExactAcyclicWrongFalsely : Prop := fnExactAcyclicRow.holds Tryz.pinned (OpenSpec.ofChange fnExactAcyclicWrong)

/-- 'laws.FnExactReachOf': WHATEVER THE INPUT: true; the input reads as it did. -/
def fnExactReachOfSpec : ChangeSpec := { name := "fnExactReachOf", fn := fun _ => fun
  | [d1, d2] => { results := [.lit (.bool true)], args := [d1, d2] }
  | _ => none }
def fnExactReachOfRow : OpenClaim := { program := "ytegdaafmaookjaagreat", sum := "8484f64c289727cbb8ed0e104523a43b8c1582f76b897eca28cce7d86a85c509", func := "loop.example/g00777/laws.FnExactReachOf", spec := "fnExactReachOf", inPlace := ["internal/bytealg.IndexByteString", "internal/abi.NoEscape", "internal/bytealg.MakeNoZero"], unfollowed := true, recurses := true, plainKeys := false, apart := false }
def FnExactReachOfSaid : Prop := fnExactReachOfRow.holds Tryz.pinned (OpenSpec.ofChange fnExactReachOfSpec)

/-- ITS FALSE NEIGHBOUR: 'it returns false'. Refute it at one input. -/
def fnExactReachOfWrong : ChangeSpec := { name := "fnExactReachOf", fn := fun _ => fun
  | [d1, d2] => { results := [.lit (.bool false)], args := [d1, d2] }
  | _ => none }
def FnExactReachOfWrongFalsely : Prop := fnExactReachOfRow.holds Tryz.pinned (OpenSpec.ofChange fnExactReachOfWrong)

/-- 'laws.FnExactAskers': WHATEVER THE INPUT: true; the input reads as it did. -/
def fnExactAskersSpec : ChangeSpec := { name := "fnExactAskers", fn := fun _ => fun
  | [d1, d2] => { results := [.lit (.bool true)], args := [d1, d2] }
  | _ => none }
def fnExactAskersRow : OpenClaim := { program := "ytegdaafmaookjaagreat", sum := "8484f64c289727cbb8ed0e104523a43b8c1582f76b897eca28cce7d86a85c509", func := "loop.example/g00777/laws.FnExactAskers", spec := "fnExactAskers", inPlace := ["internal/bytealg.IndexByteString", "internal/abi.NoEscape", "internal/bytealg.MakeNoZero"], unfollowed := true, recurses := true, plainKeys := false, apart := false }
def FnExactAskersSaid : Prop := fnExactAskersRow.holds Tryz.pinned (OpenSpec.ofChange fnExactAskersSpec)

/-- ITS FALSE NEIGHBOUR: 'it returns false'. Refute it at one input. -/
def fnExactAskersWrong : ChangeSpec := { name := "fnExactAskers", fn := fun _ => fun
  | [d1, d2] => { results := [.lit (.bool false)], args := [d1, d2] }
  | _ => none }
def FnExactAskersWrongFalsely : Prop := fnExactAskersRow.holds Tryz.pinned (OpenSpec.ofChange fnExactAskersWrong)

/-- 'laws.FnExactOrder': WHATEVER THE INPUT: true; the input reads as it did. -/
def fnExactOrderSpec : ChangeSpec := { name := "fnExactOrder", fn := fun _ => fun
  | [d] => { results := [.lit (.bool true)], args := [d] }
  | _ => none }
def fnExactOrderRow : OpenClaim := { program := "ytegdaafmaookjaagreat", sum := "8484f64c289727cbb8ed0e104523a43b8c1582f76b897eca28cce7d86a85c509", func := "loop.example/g00777/laws.FnExactOrder", spec := "fnExactOrder", inPlace := ["internal/bytealg.IndexByteString", "internal/abi.NoEscape", "internal/bytealg.MakeNoZero"], unfollowed := true, recurses := true, plainKeys := false, apart := false }
def FnExactOrderSaid : Prop := fnExactOrderRow.holds Tryz.pinned (OpenSpec.ofChange fnExactOrderSpec)

/-- ITS FALSE NEIGHBOUR: 'it returns false'. Refute it at one input. -/
def fnExactOrderWrong : ChangeSpec := { name := "fnExactOrder", fn := fun _ => fun
  | [d] => { results := [.lit (.bool false)], args := [d] }
  | _ => none }
def FnExactOrderWrongFalsely : Prop := fnExactOrderRow.holds Tryz.pinned (OpenSpec.ofChange fnExactOrderWrong)

/-- 'laws.FnExactLayer': WHATEVER THE INPUT: true; the input reads as it did. -/
def fnExactLayerSpec : ChangeSpec := { name := "fnExactLayer", fn := fun _ => fun
  | [d] => { results := [.lit (.bool true)], args := [d] }
  | _ => none }
def fnExactLayerRow : OpenClaim := { program := "ytegdaafmaookjaagreat", sum := "8484f64c289727cbb8ed0e104523a43b8c1582f76b897eca28cce7d86a85c509", func := "loop.example/g00777/laws.FnExactLayer", spec := "fnExactLayer", inPlace := ["internal/bytealg.IndexByteString", "internal/abi.NoEscape", "internal/bytealg.MakeNoZero"], unfollowed := true, recurses := true, plainKeys := false, apart := false }
def FnExactLayerSaid : Prop := fnExactLayerRow.holds Tryz.pinned (OpenSpec.ofChange fnExactLayerSpec)

/-- ITS FALSE NEIGHBOUR: 'it returns false'. Refute it at one input. -/
def fnExactLayerWrong : ChangeSpec := { name := "fnExactLayer", fn := fun _ => fun
  | [d] => { results := [.lit (.bool false)], args := [d] }
  | _ => none }
def FnExactLayerWrongFalsely : Prop := fnExactLayerRow.holds Tryz.pinned (OpenSpec.ofChange fnExactLayerWrong)

/-- 'laws.FnExactTogether': WHATEVER THE INPUT: true; the input reads as it did. -/
def fnExactTogetherSpec : ChangeSpec := { name := "fnExactTogether", fn := fun _ => fun
  | [d] => { results := [.lit (.bool true)], args := [d] }
  | _ => none }
def fnExactTogetherRow : OpenClaim := { program := "ytegdaafmaookjaagreat", sum := "8484f64c289727cbb8ed0e104523a43b8c1582f76b897eca28cce7d86a85c509", func := "loop.example/g00777/laws.FnExactTogether", spec := "fnExactTogether", inPlace := ["internal/bytealg.IndexByteString", "internal/abi.NoEscape", "internal/bytealg.MakeNoZero"], unfollowed := true, recurses := true, plainKeys := false, apart := false }
def FnExactTogetherSaid : Prop := fnExactTogetherRow.holds Tryz.pinned (OpenSpec.ofChange fnExactTogetherSpec)

/-- ITS FALSE NEIGHBOUR: 'it returns false'. Refute it at one input. -/
def fnExactTogetherWrong : ChangeSpec := { name := "fnExactTogether", fn := fun _ => fun
  | [d] => { results := [.lit (.bool false)], args := [d] }
  | _ => none }
def FnExactTogetherWrongFalsely : Prop := fnExactTogetherRow.holds Tryz.pinned (OpenSpec.ofChange fnExactTogetherWrong)

/- THE SECOND FORM. 'bulk': how many values and letters a reading holds, each counted each time it is reached (what is shared counts as often as it is met; a slice's spare places count too). A statement '..UptoSaid' is the law's where the arguments, and the package variables that the reading takes, are together of bulk at most 1048576: NARROWER than '..Said'. Prove '..Said' where nothing that the law and all that it calls make is longer than what came in: it says more and counts as full. Else prove '..UptoSaid'. A law counts once. -/
mutual
def uptoBulk {H : Type} : DataW H → Nat
  | .lit (.string bytes) => bytes.length + 1
  | .lit _ => 1
  | .nil => 1
  | .ptr d => uptoBulk d + 1
  | .slice elems spare => uptoBulkAll elems + uptoBulkAll spare + 1
  | .agg parts => uptoBulkAll parts + 1
  | .iface _ d => uptoBulk d + 1
  | .map entries => uptoBulkEntries entries + 1
  | .held _ => 1
def uptoBulkAll {H : Type} : List (DataW H) → Nat
  | [] => 0
  | d :: r => uptoBulk d + uptoBulkAll r
def uptoBulkEntries {H : Type} : List (Lit × DataW H) → Nat
  | [] => 0
  | x :: r => uptoBulkEntry x + uptoBulkEntries r
def uptoBulkEntry {H : Type} : Lit × DataW H → Nat
  | (.string bytes, d) => bytes.length + uptoBulk d + 1
  | (_, d) => uptoBulk d + 1
 end
def uptoSmall : (H : Type) → List (DataW H) → Bool := fun _ ds => decide (uptoBulkAll ds ≤ 1048576)
def OpenSpec.upto (s : _root_.Go.ChangeSpec) : _root_.Go.OpenSpec := { _root_.Go.OpenSpec.ofChange s with cond := some uptoSmall }

/-- 'laws.FnExactGraphOk', WHERE WHAT IT READS IS OF BULK AT MOST 1048576: true; the input reads as it did. -/
def fnExactGraphOkUptoRow : OpenClaim := { program := "ytegdaafmaookjaagreat", sum := "8484f64c289727cbb8ed0e104523a43b8c1582f76b897eca28cce7d86a85c509", func := "loop.example/g00777/laws.FnExactGraphOk", spec := "fnExactGraphOk", inPlace := ["internal/bytealg.IndexByteString", "internal/abi.NoEscape", "internal/bytealg.MakeNoZero"], unfollowed := true, recurses := true, plainKeys := false, apart := false, narrowed := true }
def FnExactGraphOkUptoSaid : Prop := fnExactGraphOkUptoRow.holds Tryz.pinned (OpenSpec.upto fnExactGraphOkSpec)

/-- 'laws.FnExactAcyclic', WHERE WHAT IT READS IS OF BULK AT MOST 1048576: true; the input reads as it did. -/
def fnExactAcyclicUptoRow : OpenClaim := { program := "ytegdaafmaookjaagreat", sum := "8484f64c289727cbb8ed0e104523a43b8c1582f76b897eca28cce7d86a85c509", func := "loop.example/g00777/laws.FnExactAcyclic", spec := "fnExactAcyclic", inPlace := ["internal/bytealg.IndexByteString", "internal/abi.NoEscape", "internal/bytealg.MakeNoZero"], unfollowed := true, recurses := true, plainKeys := false, apart := false, narrowed := true }
def FnExactAcyclicUptoSaid : Prop := fnExactAcyclicUptoRow.holds Tryz.pinned (OpenSpec.upto fnExactAcyclicSpec)

/-- 'laws.FnExactReachOf', WHERE WHAT IT READS IS OF BULK AT MOST 1048576: true; the input reads as it did. -/
def fnExactReachOfUptoRow : OpenClaim := { program := "ytegdaafmaookjaagreat", sum := "8484f64c289727cbb8ed0e104523a43b8c1582f76b897eca28cce7d86a85c509", func := "loop.example/g00777/laws.FnExactReachOf", spec := "fnExactReachOf", inPlace := ["internal/bytealg.IndexByteString", "internal/abi.NoEscape", "internal/bytealg.MakeNoZero"], unfollowed := true, recurses := true, plainKeys := false, apart := false, narrowed := true }
def FnExactReachOfUptoSaid : Prop := fnExactReachOfUptoRow.holds Tryz.pinned (OpenSpec.upto fnExactReachOfSpec)

/-- 'laws.FnExactAskers', WHERE WHAT IT READS IS OF BULK AT MOST 1048576: true; the input reads as it did. -/
def fnExactAskersUptoRow : OpenClaim := { program := "ytegdaafmaookjaagreat", sum := "8484f64c289727cbb8ed0e104523a43b8c1582f76b897eca28cce7d86a85c509", func := "loop.example/g00777/laws.FnExactAskers", spec := "fnExactAskers", inPlace := ["internal/bytealg.IndexByteString", "internal/abi.NoEscape", "internal/bytealg.MakeNoZero"], unfollowed := true, recurses := true, plainKeys := false, apart := false, narrowed := true }
def FnExactAskersUptoSaid : Prop := fnExactAskersUptoRow.holds Tryz.pinned (OpenSpec.upto fnExactAskersSpec)

/-- 'laws.FnExactOrder', WHERE WHAT IT READS IS OF BULK AT MOST 1048576: true; the input reads as it did. -/
def fnExactOrderUptoRow : OpenClaim := { program := "ytegdaafmaookjaagreat", sum := "8484f64c289727cbb8ed0e104523a43b8c1582f76b897eca28cce7d86a85c509", func := "loop.example/g00777/laws.FnExactOrder", spec := "fnExactOrder", inPlace := ["internal/bytealg.IndexByteString", "internal/abi.NoEscape", "internal/bytealg.MakeNoZero"], unfollowed := true, recurses := true, plainKeys := false, apart := false, narrowed := true }
def FnExactOrderUptoSaid : Prop := fnExactOrderUptoRow.holds Tryz.pinned (OpenSpec.upto fnExactOrderSpec)

/-- 'laws.FnExactLayer', WHERE WHAT IT READS IS OF BULK AT MOST 1048576: true; the input reads as it did. -/
def fnExactLayerUptoRow : OpenClaim := { program := "ytegdaafmaookjaagreat", sum := "8484f64c289727cbb8ed0e104523a43b8c1582f76b897eca28cce7d86a85c509", func := "loop.example/g00777/laws.FnExactLayer", spec := "fnExactLayer", inPlace := ["internal/bytealg.IndexByteString", "internal/abi.NoEscape", "internal/bytealg.MakeNoZero"], unfollowed := true, recurses := true, plainKeys := false, apart := false, narrowed := true }
def FnExactLayerUptoSaid : Prop := fnExactLayerUptoRow.holds Tryz.pinned (OpenSpec.upto fnExactLayerSpec)

/-- 'laws.FnExactTogether', WHERE WHAT IT READS IS OF BULK AT MOST 1048576: true; the input reads as it did. -/
def fnExactTogetherUptoRow : OpenClaim := { program := "ytegdaafmaookjaagreat", sum := "8484f64c289727cbb8ed0e104523a43b8c1582f76b897eca28cce7d86a85c509", func := "loop.example/g00777/laws.FnExactTogether", spec := "fnExactTogether", inPlace := ["internal/bytealg.IndexByteString", "internal/abi.NoEscape", "internal/bytealg.MakeNoZero"], unfollowed := true, recurses := true, plainKeys := false, apart := false, narrowed := true }
def FnExactTogetherUptoSaid : Prop := fnExactTogetherUptoRow.holds Tryz.pinned (OpenSpec.upto fnExactTogetherSpec)

end Rows
end Go.Proofs.YtegdaafmaookjaaGreat
