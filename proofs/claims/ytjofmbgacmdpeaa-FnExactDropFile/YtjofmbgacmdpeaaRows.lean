/-
  No cell of these rows narrows 'for every input' (looked for: loops, veiled, ifaces, maps, wideKeys, modest, calm, conditions, laid).
  DERIVED. THE GIVEN ROWS OF THIS SEAT. 6 by the template 'for every input the law returns true; each argument reads behind the call as it read before'; 0 by the template 'total and deterministic' (their statements: YtjofmbgacmdpeaaTotals.lean).
  GIVEN WITH THE SEED: the statements are not yours to turn. If you find one false, say at which input.
  Laid BY PROGRAM, IN A SANDBOX (cutbox-rows.mjs): the forced cells as the released guide's own fill.sh prints them over the translation 0294dc59bd503a6f… (all of the seat's roots in one cut). By AI agents, Wed Nov 11 2026. No macro, syntax, notation, axiom, sorry.
-/
import Derived.Test.YtjofmbgacmdpeaaChecked
import GoSem.Claim
import GoSem.ClaimJoined
import GoSem.ClaimMapViews
import Derived.JoinedTies
import Derived.KernelRfl
namespace Go.Proofs.Ytjofmbgacmdpeaa
/- THE CELL 'sum', in the pinned program and in every row, IS THE sha256 OF THE DUMP (.gsa) THAT YtjofmbgacmdpeaaProg.lean LOADS. Nothing in Lean hashes anything: it is a label: what it is worth is what the hold of that sum in a sandbox is worth. -/
noncomputable def Try.pinned : Pinned := { name := "ytjofmbgacmdpeaa", sum := "0294dc59bd503a6f844d2b358d1af630aeb174fb1779931aba56c64fb1b09c64", checked := Try.checked }
namespace Rows
def none {H : Type} : Left H := { results := [], args := [] }

/-- 'laws.FnFiles': WHATEVER THE INPUT: true; the input reads as it did. -/
def fnFilesSpec : ChangeSpec := { name := "fnFiles", fn := fun _ => fun
  | [d] => { results := [.lit (.bool true)], args := [d] }
  | _ => none }
def fnFilesRow : OpenClaim := { program := "ytjofmbgacmdpeaa", sum := "0294dc59bd503a6f844d2b358d1af630aeb174fb1779931aba56c64fb1b09c64", func := "loop.example/g00777/laws.FnFiles", spec := "fnFiles", inPlace := ["internal/bytealg.IndexByteString", "internal/abi.NoEscape", "internal/bytealg.MakeNoZero", "internal/bytealg.abigen_runtime_cmpstring"], unfollowed := true, recurses := true, apart := false }
def FnFilesSaid : Prop := fnFilesRow.holds Try.pinned (OpenSpec.ofChange fnFilesSpec)

/-- ITS FALSE NEIGHBOUR: 'it returns false'. Refute it at one input. -/
def fnFilesWrong : ChangeSpec := { name := "fnFiles", fn := fun _ => fun
  | [d] => { results := [.lit (.bool false)], args := [d] }
  | _ => none }
def FnFilesWrongFalsely : Prop := fnFilesRow.holds Try.pinned (OpenSpec.ofChange fnFilesWrong)

/-- 'laws.FnExactShowFiles': WHATEVER THE INPUT: true; the input reads as it did. -/
def fnExactShowFilesSpec : ChangeSpec := { name := "fnExactShowFiles", fn := fun _ => fun
  | [d] => { results := [.lit (.bool true)], args := [d] }
  | _ => none }
def fnExactShowFilesRow : OpenClaim := { program := "ytjofmbgacmdpeaa", sum := "0294dc59bd503a6f844d2b358d1af630aeb174fb1779931aba56c64fb1b09c64", func := "loop.example/g00777/laws.FnExactShowFiles", spec := "fnExactShowFiles", inPlace := ["internal/bytealg.IndexByteString", "internal/abi.NoEscape", "internal/bytealg.MakeNoZero"], apart := false }
def FnExactShowFilesSaid : Prop := fnExactShowFilesRow.holds Try.pinned (OpenSpec.ofChange fnExactShowFilesSpec)

/-- ITS FALSE NEIGHBOUR: 'it returns false'. Refute it at one input. -/
def fnExactShowFilesWrong : ChangeSpec := { name := "fnExactShowFiles", fn := fun _ => fun
  | [d] => { results := [.lit (.bool false)], args := [d] }
  | _ => none }
def FnExactShowFilesWrongFalsely : Prop := fnExactShowFilesRow.holds Try.pinned (OpenSpec.ofChange fnExactShowFilesWrong)

/-- 'laws.FnExactReadFiles': WHATEVER THE INPUT: true; the input reads as it did. -/
def fnExactReadFilesSpec : ChangeSpec := { name := "fnExactReadFiles", fn := fun _ => fun
  | [d] => { results := [.lit (.bool true)], args := [d] }
  | _ => none }
def fnExactReadFilesRow : OpenClaim := { program := "ytjofmbgacmdpeaa", sum := "0294dc59bd503a6f844d2b358d1af630aeb174fb1779931aba56c64fb1b09c64", func := "loop.example/g00777/laws.FnExactReadFiles", spec := "fnExactReadFiles", inPlace := ["internal/bytealg.IndexByteString", "internal/abi.NoEscape", "internal/bytealg.MakeNoZero"], apart := false }
def FnExactReadFilesSaid : Prop := fnExactReadFilesRow.holds Try.pinned (OpenSpec.ofChange fnExactReadFilesSpec)

/-- ITS FALSE NEIGHBOUR: 'it returns false'. Refute it at one input. -/
def fnExactReadFilesWrong : ChangeSpec := { name := "fnExactReadFiles", fn := fun _ => fun
  | [d] => { results := [.lit (.bool false)], args := [d] }
  | _ => none }
def FnExactReadFilesWrongFalsely : Prop := fnExactReadFilesRow.holds Try.pinned (OpenSpec.ofChange fnExactReadFilesWrong)

/-- 'laws.FnExactPutFile': WHATEVER THE INPUT: true; the input reads as it did. -/
def fnExactPutFileSpec : ChangeSpec := { name := "fnExactPutFile", fn := fun _ => fun
  | [d1, d2] => { results := [.lit (.bool true)], args := [d1, d2] }
  | _ => none }
def fnExactPutFileRow : OpenClaim := { program := "ytjofmbgacmdpeaa", sum := "0294dc59bd503a6f844d2b358d1af630aeb174fb1779931aba56c64fb1b09c64", func := "loop.example/g00777/laws.FnExactPutFile", spec := "fnExactPutFile", inPlace := ["internal/bytealg.IndexByteString", "internal/abi.NoEscape", "internal/bytealg.MakeNoZero", "internal/bytealg.abigen_runtime_cmpstring"], unfollowed := true, recurses := true, apart := false }
def FnExactPutFileSaid : Prop := fnExactPutFileRow.holds Try.pinned (OpenSpec.ofChange fnExactPutFileSpec)

/-- ITS FALSE NEIGHBOUR: 'it returns false'. Refute it at one input. -/
def fnExactPutFileWrong : ChangeSpec := { name := "fnExactPutFile", fn := fun _ => fun
  | [d1, d2] => { results := [.lit (.bool false)], args := [d1, d2] }
  | _ => none }
def FnExactPutFileWrongFalsely : Prop := fnExactPutFileRow.holds Try.pinned (OpenSpec.ofChange fnExactPutFileWrong)

/-- 'laws.FnExactDropFile': WHATEVER THE INPUT: true; the input reads as it did. -/
def fnExactDropFileSpec : ChangeSpec := { name := "fnExactDropFile", fn := fun _ => fun
  | [d1, d2] => { results := [.lit (.bool true)], args := [d1, d2] }
  | _ => none }
def fnExactDropFileRow : OpenClaim := { program := "ytjofmbgacmdpeaa", sum := "0294dc59bd503a6f844d2b358d1af630aeb174fb1779931aba56c64fb1b09c64", func := "loop.example/g00777/laws.FnExactDropFile", spec := "fnExactDropFile", inPlace := ["internal/bytealg.IndexByteString", "internal/abi.NoEscape", "internal/bytealg.MakeNoZero"], unfollowed := true, recurses := true, apart := false }
def FnExactDropFileSaid : Prop := fnExactDropFileRow.holds Try.pinned (OpenSpec.ofChange fnExactDropFileSpec)

/-- ITS FALSE NEIGHBOUR: 'it returns false'. Refute it at one input. -/
def fnExactDropFileWrong : ChangeSpec := { name := "fnExactDropFile", fn := fun _ => fun
  | [d1, d2] => { results := [.lit (.bool false)], args := [d1, d2] }
  | _ => none }
def FnExactDropFileWrongFalsely : Prop := fnExactDropFileRow.holds Try.pinned (OpenSpec.ofChange fnExactDropFileWrong)

/-- 'laws.FnExactChanged': WHATEVER THE INPUT: true; the input reads as it did. -/
def fnExactChangedSpec : ChangeSpec := { name := "fnExactChanged", fn := fun _ => fun
  | [d1, d2] => { results := [.lit (.bool true)], args := [d1, d2] }
  | _ => none }
def fnExactChangedRow : OpenClaim := { program := "ytjofmbgacmdpeaa", sum := "0294dc59bd503a6f844d2b358d1af630aeb174fb1779931aba56c64fb1b09c64", func := "loop.example/g00777/laws.FnExactChanged", spec := "fnExactChanged", inPlace := ["internal/bytealg.IndexByteString", "internal/abi.NoEscape", "internal/bytealg.MakeNoZero", "internal/bytealg.abigen_runtime_cmpstring"], unfollowed := true, recurses := true, apart := false }
def FnExactChangedSaid : Prop := fnExactChangedRow.holds Try.pinned (OpenSpec.ofChange fnExactChangedSpec)

/-- ITS FALSE NEIGHBOUR: 'it returns false'. Refute it at one input. -/
def fnExactChangedWrong : ChangeSpec := { name := "fnExactChanged", fn := fun _ => fun
  | [d1, d2] => { results := [.lit (.bool false)], args := [d1, d2] }
  | _ => none }
def FnExactChangedWrongFalsely : Prop := fnExactChangedRow.holds Try.pinned (OpenSpec.ofChange fnExactChangedWrong)

/- THE SECOND FORM. 'bulk': how many values and letters a reading holds, each counted each time it is reached (what is shared counts as often as it is met; a slice's spare places count too). A statement '..UptoSaid' is the law's where the arguments, and the package variables that the reading takes, are together of bulk at most 1048576: NARROWER than '..Said'. Prove '..Said' where nothing that the law and all that it calls make is longer than what came in: it says more and counts as full. Else prove '..UptoSaid'. A law counts once. -/
mutual
def uptoBulk {H : Type} : DataW H → Nat
  | .lit (.string bytes) => bytes.length + 1
  | .lit _ => 1
  | .nil => 1
  | .ptr d => uptoBulk d + 1
  | .slice elems spare => uptoBulkAll elems + uptoBulkAll spare + 1
  | .agg parts => uptoBulkAll parts + 1
  | .iface _ d => uptoBulk d + 1
  | .map entries => uptoBulkEntries entries + 1
  | .held _ => 1
def uptoBulkAll {H : Type} : List (DataW H) → Nat
  | [] => 0
  | d :: r => uptoBulk d + uptoBulkAll r
def uptoBulkEntries {H : Type} : List (Lit × DataW H) → Nat
  | [] => 0
  | x :: r => uptoBulkEntry x + uptoBulkEntries r
def uptoBulkEntry {H : Type} : Lit × DataW H → Nat
  | (.string bytes, d) => bytes.length + uptoBulk d + 1
  | (_, d) => uptoBulk d + 1
 end
def uptoSmall : (H : Type) → List (DataW H) → Bool := fun _ ds => decide (uptoBulkAll ds ≤ 1048576)
def OpenSpec.upto (s : _root_.Go.ChangeSpec) : _root_.Go.OpenSpec := { _root_.Go.OpenSpec.ofChange s with cond := some uptoSmall }

/-- 'laws.FnFiles', WHERE WHAT IT READS IS OF BULK AT MOST 1048576: true; the input reads as it did. -/
def fnFilesUptoRow : OpenClaim := { program := "ytjofmbgacmdpeaa", sum := "0294dc59bd503a6f844d2b358d1af630aeb174fb1779931aba56c64fb1b09c64", func := "loop.example/g00777/laws.FnFiles", spec := "fnFiles", inPlace := ["internal/bytealg.IndexByteString", "internal/abi.NoEscape", "internal/bytealg.MakeNoZero", "internal/bytealg.abigen_runtime_cmpstring"], unfollowed := true, recurses := true, apart := false, narrowed := true }
def FnFilesUptoSaid : Prop := fnFilesUptoRow.holds Try.pinned (OpenSpec.upto fnFilesSpec)

/-- 'laws.FnExactShowFiles', WHERE WHAT IT READS IS OF BULK AT MOST 1048576: true; the input reads as it did. -/
def fnExactShowFilesUptoRow : OpenClaim := { program := "ytjofmbgacmdpeaa", sum := "0294dc59bd503a6f844d2b358d1af630aeb174fb1779931aba56c64fb1b09c64", func := "loop.example/g00777/laws.FnExactShowFiles", spec := "fnExactShowFiles", inPlace := ["internal/bytealg.IndexByteString", "internal/abi.NoEscape", "internal/bytealg.MakeNoZero"], apart := false, narrowed := true }
def FnExactShowFilesUptoSaid : Prop := fnExactShowFilesUptoRow.holds Try.pinned (OpenSpec.upto fnExactShowFilesSpec)

/-- 'laws.FnExactReadFiles', WHERE WHAT IT READS IS OF BULK AT MOST 1048576: true; the input reads as it did. -/
def fnExactReadFilesUptoRow : OpenClaim := { program := "ytjofmbgacmdpeaa", sum := "0294dc59bd503a6f844d2b358d1af630aeb174fb1779931aba56c64fb1b09c64", func := "loop.example/g00777/laws.FnExactReadFiles", spec := "fnExactReadFiles", inPlace := ["internal/bytealg.IndexByteString", "internal/abi.NoEscape", "internal/bytealg.MakeNoZero"], apart := false, narrowed := true }
def FnExactReadFilesUptoSaid : Prop := fnExactReadFilesUptoRow.holds Try.pinned (OpenSpec.upto fnExactReadFilesSpec)

/-- 'laws.FnExactPutFile', WHERE WHAT IT READS IS OF BULK AT MOST 1048576: true; the input reads as it did. -/
def fnExactPutFileUptoRow : OpenClaim := { program := "ytjofmbgacmdpeaa", sum := "0294dc59bd503a6f844d2b358d1af630aeb174fb1779931aba56c64fb1b09c64", func := "loop.example/g00777/laws.FnExactPutFile", spec := "fnExactPutFile", inPlace := ["internal/bytealg.IndexByteString", "internal/abi.NoEscape", "internal/bytealg.MakeNoZero", "internal/bytealg.abigen_runtime_cmpstring"], unfollowed := true, recurses := true, apart := false, narrowed := true }
def FnExactPutFileUptoSaid : Prop := fnExactPutFileUptoRow.holds Try.pinned (OpenSpec.upto fnExactPutFileSpec)

/-- 'laws.FnExactDropFile', WHERE WHAT IT READS IS OF BULK AT MOST 1048576: true; the input reads as it did. -/
def fnExactDropFileUptoRow : OpenClaim := { program := "ytjofmbgacmdpeaa", sum := "0294dc59bd503a6f844d2b358d1af630aeb174fb1779931aba56c64fb1b09c64", func := "loop.example/g00777/laws.FnExactDropFile", spec := "fnExactDropFile", inPlace := ["internal/bytealg.IndexByteString", "internal/abi.NoEscape", "internal/bytealg.MakeNoZero"], unfollowed := true, recurses := true, apart := false, narrowed := true }
def FnExactDropFileUptoSaid : Prop := fnExactDropFileUptoRow.holds Try.pinned (OpenSpec.upto fnExactDropFileSpec)

/-- 'laws.FnExactChanged', WHERE WHAT IT READS IS OF BULK AT MOST 1048576: true; the input reads as it did. -/
def fnExactChangedUptoRow : OpenClaim := { program := "ytjofmbgacmdpeaa", sum := "0294dc59bd503a6f844d2b358d1af630aeb174fb1779931aba56c64fb1b09c64", func := "loop.example/g00777/laws.FnExactChanged", spec := "fnExactChanged", inPlace := ["internal/bytealg.IndexByteString", "internal/abi.NoEscape", "internal/bytealg.MakeNoZero", "internal/bytealg.abigen_runtime_cmpstring"], unfollowed := true, recurses := true, apart := false, narrowed := true }
def FnExactChangedUptoSaid : Prop := fnExactChangedUptoRow.holds Try.pinned (OpenSpec.upto fnExactChangedSpec)

end Rows
end Go.Proofs.Ytjofmbgacmdpeaa
