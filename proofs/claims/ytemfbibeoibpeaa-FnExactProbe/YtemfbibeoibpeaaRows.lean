/-
  No cell of these rows narrows 'for every input' (looked for: loops, veiled, ifaces, maps, wideKeys, modest, calm, conditions, laid).
  DERIVED. THE GIVEN ROWS OF THIS SEAT. 5 by the template 'for every input the law returns true; each argument reads behind the call as it read before'; 0 by the template 'total and deterministic' (their statements: YtemfbibeoibpeaaTotals.lean).
  GIVEN WITH THE SEED: the statements are not yours to turn. If you find one false, say at which input.
  Laid BY PROGRAM, IN A SANDBOX (cutbox-rows.mjs): the forced cells as the released guide's own fill.sh prints them over the translation 14956761a936d69d… (all of the seat's roots in one cut). By AI agents, Wed Nov 11 2026. No macro, syntax, notation, axiom, sorry.
-/
import Derived.Test.YtemfbibeoibpeaaChecked
import GoSem.Claim
import GoSem.ClaimJoined
import GoSem.ClaimMapViews
import Derived.JoinedTies
import Derived.KernelRfl
namespace Go.Proofs.Ytemfbibeoibpeaa
/- THE CELL 'sum', in the pinned program and in every row, IS THE sha256 OF THE DUMP (.gsa) THAT YtemfbibeoibpeaaProg.lean LOADS. Nothing in Lean hashes anything: it is a label: what it is worth is what the hold of that sum in a sandbox is worth. -/
noncomputable def Try.pinned : Pinned := { name := "ytemfbibeoibpeaa", sum := "14956761a936d69de154099a50e98e8b0c5c0d4695eb849640b0ae96d02edbc8", checked := Try.checked }
namespace Rows
def none {H : Type} : Left H := { results := [], args := [] }

/-- 'laws.FnUp': WHATEVER THE INPUT: true; the input reads as it did. -/
def fnUpSpec : ChangeSpec := { name := "fnUp", fn := fun _ => fun
  | [d] => { results := [.lit (.bool true)], args := [d] }
  | _ => none }
def fnUpRow : OpenClaim := { program := "ytemfbibeoibpeaa", sum := "14956761a936d69de154099a50e98e8b0c5c0d4695eb849640b0ae96d02edbc8", func := "loop.example/g00777/laws.FnUp", spec := "fnUp", inPlace := ["internal/bytealg.IndexByteString", "internal/abi.NoEscape", "internal/bytealg.MakeNoZero"], unfollowed := true, recurses := true, apart := false }
def FnUpSaid : Prop := fnUpRow.holds Try.pinned (OpenSpec.ofChange fnUpSpec)

/-- ITS FALSE NEIGHBOUR: 'it returns false'. Refute it at one input. -/
def fnUpWrong : ChangeSpec := { name := "fnUp", fn := fun _ => fun
  | [d] => { results := [.lit (.bool false)], args := [d] }
  | _ => none }
def FnUpWrongFalsely : Prop := fnUpRow.holds Try.pinned (OpenSpec.ofChange fnUpWrong)

/-- 'laws.FnProbe': WHATEVER THE INPUT: true; the input reads as it did. -/
def fnProbeSpec : ChangeSpec := { name := "fnProbe", fn := fun _ => fun
  | [d] => { results := [.lit (.bool true)], args := [d] }
  | _ => none }
def fnProbeRow : OpenClaim := { program := "ytemfbibeoibpeaa", sum := "14956761a936d69de154099a50e98e8b0c5c0d4695eb849640b0ae96d02edbc8", func := "loop.example/g00777/laws.FnProbe", spec := "fnProbe", inPlace := ["internal/bytealg.IndexByteString", "internal/abi.NoEscape", "internal/bytealg.MakeNoZero"], unfollowed := true, recurses := true, apart := false }
def FnProbeSaid : Prop := fnProbeRow.holds Try.pinned (OpenSpec.ofChange fnProbeSpec)

/-- ITS FALSE NEIGHBOUR: 'it returns false'. Refute it at one input. -/
def fnProbeWrong : ChangeSpec := { name := "fnProbe", fn := fun _ => fun
  | [d] => { results := [.lit (.bool false)], args := [d] }
  | _ => none }
def FnProbeWrongFalsely : Prop := fnProbeRow.holds Try.pinned (OpenSpec.ofChange fnProbeWrong)

/-- 'laws.FnExactUp': WHATEVER THE INPUT: true; the input reads as it did. -/
def fnExactUpSpec : ChangeSpec := { name := "fnExactUp", fn := fun _ => fun
  | [d] => { results := [.lit (.bool true)], args := [d] }
  | _ => none }
def fnExactUpRow : OpenClaim := { program := "ytemfbibeoibpeaa", sum := "14956761a936d69de154099a50e98e8b0c5c0d4695eb849640b0ae96d02edbc8", func := "loop.example/g00777/laws.FnExactUp", spec := "fnExactUp", inPlace := ["internal/bytealg.IndexByteString", "internal/abi.NoEscape", "internal/bytealg.MakeNoZero"], unfollowed := true, recurses := true, apart := false }
def FnExactUpSaid : Prop := fnExactUpRow.holds Try.pinned (OpenSpec.ofChange fnExactUpSpec)

/-- ITS FALSE NEIGHBOUR: 'it returns false'. Refute it at one input. -/
def fnExactUpWrong : ChangeSpec := { name := "fnExactUp", fn := fun _ => fun
  | [d] => { results := [.lit (.bool false)], args := [d] }
  | _ => none }
def FnExactUpWrongFalsely : Prop := fnExactUpRow.holds Try.pinned (OpenSpec.ofChange fnExactUpWrong)

/-- 'laws.FnExactCandidates': WHATEVER THE INPUT: true; the input reads as it did. -/
def fnExactCandidatesSpec : ChangeSpec := { name := "fnExactCandidates", fn := fun _ => fun
  | [d1, d2] => { results := [.lit (.bool true)], args := [d1, d2] }
  | _ => none }
def fnExactCandidatesRow : OpenClaim := { program := "ytemfbibeoibpeaa", sum := "14956761a936d69de154099a50e98e8b0c5c0d4695eb849640b0ae96d02edbc8", func := "loop.example/g00777/laws.FnExactCandidates", spec := "fnExactCandidates", inPlace := ["internal/bytealg.IndexByteString", "internal/abi.NoEscape", "internal/bytealg.MakeNoZero"], unfollowed := true, recurses := true, apart := false }
def FnExactCandidatesSaid : Prop := fnExactCandidatesRow.holds Try.pinned (OpenSpec.ofChange fnExactCandidatesSpec)

/-- ITS FALSE NEIGHBOUR: 'it returns false'. Refute it at one input. -/
def fnExactCandidatesWrong : ChangeSpec := { name := "fnExactCandidates", fn := fun _ => fun
  | [d1, d2] => { results := [.lit (.bool false)], args := [d1, d2] }
  | _ => none }
def FnExactCandidatesWrongFalsely : Prop := fnExactCandidatesRow.holds Try.pinned (OpenSpec.ofChange fnExactCandidatesWrong)

/-- 'laws.FnExactProbe': WHATEVER THE INPUT: true; the input reads as it did. -/
def fnExactProbeSpec : ChangeSpec := { name := "fnExactProbe", fn := fun _ => fun
  | [d1, d2, d3] => { results := [.lit (.bool true)], args := [d1, d2, d3] }
  | _ => none }
def fnExactProbeRow : OpenClaim := { program := "ytemfbibeoibpeaa", sum := "14956761a936d69de154099a50e98e8b0c5c0d4695eb849640b0ae96d02edbc8", func := "loop.example/g00777/laws.FnExactProbe", spec := "fnExactProbe", inPlace := ["internal/bytealg.IndexByteString", "internal/abi.NoEscape", "internal/bytealg.MakeNoZero"], unfollowed := true, recurses := true, apart := false }
def FnExactProbeSaid : Prop := fnExactProbeRow.holds Try.pinned (OpenSpec.ofChange fnExactProbeSpec)

/-- ITS FALSE NEIGHBOUR: 'it returns false'. Refute it at one input. -/
def fnExactProbeWrong : ChangeSpec := { name := "fnExactProbe", fn := fun _ => fun
  | [d1, d2, d3] => { results := [.lit (.bool false)], args := [d1, d2, d3] }
  | _ => none }
def FnExactProbeWrongFalsely : Prop := fnExactProbeRow.holds Try.pinned (OpenSpec.ofChange fnExactProbeWrong)

/- THE SECOND FORM. 'bulk': how many values and letters a reading holds, each counted each time it is reached (what is shared counts as often as it is met; a slice's spare places count too). A statement '..UptoSaid' is the law's where the arguments, and the package variables that the reading takes, are together of bulk at most 1048576: NARROWER than '..Said'. Prove '..Said' where nothing that the law and all that it calls make is longer than what came in: it says more and counts as full. Else prove '..UptoSaid'. A law counts once. -/
mutual
def uptoBulk {H : Type} : DataW H → Nat
  | .lit (.string bytes) => bytes.length + 1
  | .lit _ => 1
  | .nil => 1
  | .ptr d => uptoBulk d + 1
  | .slice elems spare => uptoBulkAll elems + uptoBulkAll spare + 1
  | .agg parts => uptoBulkAll parts + 1
  | .iface _ d => uptoBulk d + 1
  | .map entries => uptoBulkEntries entries + 1
  | .held _ => 1
def uptoBulkAll {H : Type} : List (DataW H) → Nat
  | [] => 0
  | d :: r => uptoBulk d + uptoBulkAll r
def uptoBulkEntries {H : Type} : List (Lit × DataW H) → Nat
  | [] => 0
  | x :: r => uptoBulkEntry x + uptoBulkEntries r
def uptoBulkEntry {H : Type} : Lit × DataW H → Nat
  | (.string bytes, d) => bytes.length + uptoBulk d + 1
  | (_, d) => uptoBulk d + 1
 end
def uptoSmall : (H : Type) → List (DataW H) → Bool := fun _ ds => decide (uptoBulkAll ds ≤ 1048576)
def OpenSpec.upto (s : _root_.Go.ChangeSpec) : _root_.Go.OpenSpec := { _root_.Go.OpenSpec.ofChange s with cond := some uptoSmall }

/-- 'laws.FnUp', WHERE WHAT IT READS IS OF BULK AT MOST 1048576: true; the input reads as it did. -/
def fnUpUptoRow : OpenClaim := { program := "ytemfbibeoibpeaa", sum := "14956761a936d69de154099a50e98e8b0c5c0d4695eb849640b0ae96d02edbc8", func := "loop.example/g00777/laws.FnUp", spec := "fnUp", inPlace := ["internal/bytealg.IndexByteString", "internal/abi.NoEscape", "internal/bytealg.MakeNoZero"], unfollowed := true, recurses := true, apart := false, narrowed := true }
def FnUpUptoSaid : Prop := fnUpUptoRow.holds Try.pinned (OpenSpec.upto fnUpSpec)

/-- 'laws.FnProbe', WHERE WHAT IT READS IS OF BULK AT MOST 1048576: true; the input reads as it did. -/
def fnProbeUptoRow : OpenClaim := { program := "ytemfbibeoibpeaa", sum := "14956761a936d69de154099a50e98e8b0c5c0d4695eb849640b0ae96d02edbc8", func := "loop.example/g00777/laws.FnProbe", spec := "fnProbe", inPlace := ["internal/bytealg.IndexByteString", "internal/abi.NoEscape", "internal/bytealg.MakeNoZero"], unfollowed := true, recurses := true, apart := false, narrowed := true }
def FnProbeUptoSaid : Prop := fnProbeUptoRow.holds Try.pinned (OpenSpec.upto fnProbeSpec)

/-- 'laws.FnExactUp', WHERE WHAT IT READS IS OF BULK AT MOST 1048576: true; the input reads as it did. -/
def fnExactUpUptoRow : OpenClaim := { program := "ytemfbibeoibpeaa", sum := "14956761a936d69de154099a50e98e8b0c5c0d4695eb849640b0ae96d02edbc8", func := "loop.example/g00777/laws.FnExactUp", spec := "fnExactUp", inPlace := ["internal/bytealg.IndexByteString", "internal/abi.NoEscape", "internal/bytealg.MakeNoZero"], unfollowed := true, recurses := true, apart := false, narrowed := true }
def FnExactUpUptoSaid : Prop := fnExactUpUptoRow.holds Try.pinned (OpenSpec.upto fnExactUpSpec)

/-- 'laws.FnExactCandidates', WHERE WHAT IT READS IS OF BULK AT MOST 1048576: true; the input reads as it did. -/
def fnExactCandidatesUptoRow : OpenClaim := { program := "ytemfbibeoibpeaa", sum := "14956761a936d69de154099a50e98e8b0c5c0d4695eb849640b0ae96d02edbc8", func := "loop.example/g00777/laws.FnExactCandidates", spec := "fnExactCandidates", inPlace := ["internal/bytealg.IndexByteString", "internal/abi.NoEscape", "internal/bytealg.MakeNoZero"], unfollowed := true, recurses := true, apart := false, narrowed := true }
def FnExactCandidatesUptoSaid : Prop := fnExactCandidatesUptoRow.holds Try.pinned (OpenSpec.upto fnExactCandidatesSpec)

/-- 'laws.FnExactProbe', WHERE WHAT IT READS IS OF BULK AT MOST 1048576: true; the input reads as it did. -/
def fnExactProbeUptoRow : OpenClaim := { program := "ytemfbibeoibpeaa", sum := "14956761a936d69de154099a50e98e8b0c5c0d4695eb849640b0ae96d02edbc8", func := "loop.example/g00777/laws.FnExactProbe", spec := "fnExactProbe", inPlace := ["internal/bytealg.IndexByteString", "internal/abi.NoEscape", "internal/bytealg.MakeNoZero"], unfollowed := true, recurses := true, apart := false, narrowed := true }
def FnExactProbeUptoSaid : Prop := fnExactProbeUptoRow.holds Try.pinned (OpenSpec.upto fnExactProbeSpec)

end Rows
end Go.Proofs.Ytemfbibeoibpeaa
