/-
  No cell of these rows narrows 'for every input' (looked for: loops, veiled, ifaces, maps, wideKeys, modest, calm, conditions, laid).
  DERIVED. THE GIVEN ROWS OF THIS SEAT. 3 by the template 'for every input the law returns true; each argument reads behind the call as it read before'; 0 by the template 'total and deterministic' (their statements: YtjdddblpfbmpaaaGreatTotals.lean).
  GIVEN WITH THE SEED: the statements are not yours to turn. If you find one false, say at which input.
  Laid BY PROGRAM, IN A SANDBOX (cutbox-rows.mjs): the forced cells as the released guide's own fill.sh prints them over the translation 9eb6d3e42ea1c497… (all of the seat's roots in one cut). By AI agents, Wed Nov 11 2026. No macro, syntax, notation, axiom, sorry.
-/
import Derived.Test.YtjdddblpfbmpaaaGreatChecked
import GoSem.Claim
import GoSem.ClaimJoined
import GoSem.ClaimMapViews
import Derived.JoinedTies
import Derived.KernelRfl
namespace Go.Proofs.YtjdddblpfbmpaaaGreat
/- THE CELL 'sum', in the pinned program and in every row, IS THE sha256 OF THE DUMP (.gsa) THAT YtjdddblpfbmpaaaGreatProg.lean LOADS. Nothing in Lean hashes anything: it is a label: what it is worth is what the hold of that sum in a sandbox is worth. -/
noncomputable def Tryz.pinned : Pinned := { name := "ytjdddblpfbmpaaagreat", sum := "9eb6d3e42ea1c4972d7576578a9d9ed223820d690e83f1bdc65c9a033e4794ab", checked := Tryz.checked }
namespace Rows
def none {H : Type} : Left H := { results := [], args := [] }

/-- 'laws.FnExactModOk': WHATEVER THE INPUT: true; the input reads as it did. -/
def fnExactModOkSpec : ChangeSpec := { name := "fnExactModOk", fn := fun _ => fun
  | [d1, d2] => { results := [.lit (.bool true)], args := [d1, d2] }
  | _ => none }
def fnExactModOkRow : OpenClaim := { program := "ytjdddblpfbmpaaagreat", sum := "9eb6d3e42ea1c4972d7576578a9d9ed223820d690e83f1bdc65c9a033e4794ab", func := "loop.example/g00777/laws.FnExactModOk", spec := "fnExactModOk", inPlace := ["internal/abi.NoEscape", "internal/bytealg.IndexByteString"], unfollowed := true, recurses := true, apart := false }
def FnExactModOkSaid : Prop := fnExactModOkRow.holds Tryz.pinned (OpenSpec.ofChange fnExactModOkSpec)

/-- ITS FALSE NEIGHBOUR: 'it returns false'. Refute it at one input. -/
def fnExactModOkWrong : ChangeSpec := { name := "fnExactModOk", fn := fun _ => fun
  | [d1, d2] => { results := [.lit (.bool false)], args := [d1, d2] }
  | _ => none }
def FnExactModOkWrongFalsely : Prop := fnExactModOkRow.holds Tryz.pinned (OpenSpec.ofChange fnExactModOkWrong)

/-- 'laws.FnExactMapMod': WHATEVER THE INPUT: true; the input reads as it did. -/
def fnExactMapModSpec : ChangeSpec := { name := "fnExactMapMod", fn := fun _ => fun
  | [d1, d2] => { results := [.lit (.bool true)], args := [d1, d2] }
  | _ => none }
def fnExactMapModRow : OpenClaim := { program := "ytjdddblpfbmpaaagreat", sum := "9eb6d3e42ea1c4972d7576578a9d9ed223820d690e83f1bdc65c9a033e4794ab", func := "loop.example/g00777/laws.FnExactMapMod", spec := "fnExactMapMod", inPlace := ["internal/abi.NoEscape", "internal/bytealg.IndexByteString"], unfollowed := true, recurses := true, apart := false }
def FnExactMapModSaid : Prop := fnExactMapModRow.holds Tryz.pinned (OpenSpec.ofChange fnExactMapModSpec)

/-- ITS FALSE NEIGHBOUR: 'it returns false'. Refute it at one input. -/
def fnExactMapModWrong : ChangeSpec := { name := "fnExactMapMod", fn := fun _ => fun
  | [d1, d2] => { results := [.lit (.bool false)], args := [d1, d2] }
  | _ => none }
def FnExactMapModWrongFalsely : Prop := fnExactMapModRow.holds Tryz.pinned (OpenSpec.ofChange fnExactMapModWrong)

/-- 'laws.FnMap': WHATEVER THE INPUT: true; the input reads as it did. -/
def fnMapSpec : ChangeSpec := { name := "fnMap", fn := fun _ => fun
  | [d] => { results := [.lit (.bool true)], args := [d] }
  | _ => none }
def fnMapRow : OpenClaim := { program := "ytjdddblpfbmpaaagreat", sum := "9eb6d3e42ea1c4972d7576578a9d9ed223820d690e83f1bdc65c9a033e4794ab", func := "loop.example/g00777/laws.FnMap", spec := "fnMap", inPlace := ["internal/abi.NoEscape", "internal/bytealg.IndexByteString"], unfollowed := true, recurses := true, apart := false }
def FnMapSaid : Prop := fnMapRow.holds Tryz.pinned (OpenSpec.ofChange fnMapSpec)

/-- ITS FALSE NEIGHBOUR: 'it returns false'. Refute it at one input. -/
def fnMapWrong : ChangeSpec := { name := "fnMap", fn := fun _ => fun
  | [d] => { results := [.lit (.bool false)], args := [d] }
  | _ => none }
def FnMapWrongFalsely : Prop := fnMapRow.holds Tryz.pinned (OpenSpec.ofChange fnMapWrong)

/- THE SECOND FORM. 'bulk': how many values and letters a reading holds, each counted each time it is reached (what is shared counts as often as it is met; a slice's spare places count too). A statement '..UptoSaid' is the law's where the arguments, and the package variables that the reading takes, are together of bulk at most 1048576: NARROWER than '..Said'. Prove '..Said' where nothing that the law and all that it calls make is longer than what came in: it says more and counts as full. Else prove '..UptoSaid'. A law counts once. -/
mutual
def uptoBulk {H : Type} : DataW H → Nat
  | .lit (.string bytes) => bytes.length + 1
  | .lit _ => 1
  | .nil => 1
  | .ptr d => uptoBulk d + 1
  | .slice elems spare => uptoBulkAll elems + uptoBulkAll spare + 1
  | .agg parts => uptoBulkAll parts + 1
  | .iface _ d => uptoBulk d + 1
  | .map entries => uptoBulkEntries entries + 1
  | .held _ => 1
def uptoBulkAll {H : Type} : List (DataW H) → Nat
  | [] => 0
  | d :: r => uptoBulk d + uptoBulkAll r
def uptoBulkEntries {H : Type} : List (Lit × DataW H) → Nat
  | [] => 0
  | x :: r => uptoBulkEntry x + uptoBulkEntries r
def uptoBulkEntry {H : Type} : Lit × DataW H → Nat
  | (.string bytes, d) => bytes.length + uptoBulk d + 1
  | (_, d) => uptoBulk d + 1
 end
def uptoSmall : (H : Type) → List (DataW H) → Bool := fun _ ds => decide (uptoBulkAll ds ≤ 1048576)
def OpenSpec.upto (s : _root_.Go.ChangeSpec) : _root_.Go.OpenSpec := { _root_.Go.OpenSpec.ofChange s with cond := some uptoSmall }

/-- 'laws.FnExactModOk', WHERE WHAT IT READS IS OF BULK AT MOST 1048576: true; the input reads as it did. -/
def fnExactModOkUptoRow : OpenClaim := { program := "ytjdddblpfbmpaaagreat", sum := "9eb6d3e42ea1c4972d7576578a9d9ed223820d690e83f1bdc65c9a033e4794ab", func := "loop.example/g00777/laws.FnExactModOk", spec := "fnExactModOk", inPlace := ["internal/abi.NoEscape", "internal/bytealg.IndexByteString"], unfollowed := true, recurses := true, apart := false, narrowed := true }
def FnExactModOkUptoSaid : Prop := fnExactModOkUptoRow.holds Tryz.pinned (OpenSpec.upto fnExactModOkSpec)

/-- 'laws.FnExactMapMod', WHERE WHAT IT READS IS OF BULK AT MOST 1048576: true; the input reads as it did. -/
def fnExactMapModUptoRow : OpenClaim := { program := "ytjdddblpfbmpaaagreat", sum := "9eb6d3e42ea1c4972d7576578a9d9ed223820d690e83f1bdc65c9a033e4794ab", func := "loop.example/g00777/laws.FnExactMapMod", spec := "fnExactMapMod", inPlace := ["internal/abi.NoEscape", "internal/bytealg.IndexByteString"], unfollowed := true, recurses := true, apart := false, narrowed := true }
def FnExactMapModUptoSaid : Prop := fnExactMapModUptoRow.holds Tryz.pinned (OpenSpec.upto fnExactMapModSpec)

/-- 'laws.FnMap', WHERE WHAT IT READS IS OF BULK AT MOST 1048576: true; the input reads as it did. -/
def fnMapUptoRow : OpenClaim := { program := "ytjdddblpfbmpaaagreat", sum := "9eb6d3e42ea1c4972d7576578a9d9ed223820d690e83f1bdc65c9a033e4794ab", func := "loop.example/g00777/laws.FnMap", spec := "fnMap", inPlace := ["internal/abi.NoEscape", "internal/bytealg.IndexByteString"], unfollowed := true, recurses := true, apart := false, narrowed := true }
def FnMapUptoSaid : Prop := fnMapUptoRow.holds Tryz.pinned (OpenSpec.upto fnMapSpec)

end Rows
end Go.Proofs.YtjdddblpfbmpaaaGreat
