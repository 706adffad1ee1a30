/-
  No cell of these rows narrows 'for every input' (looked for: loops, veiled, ifaces, maps, wideKeys, modest, calm, conditions, laid).
  DERIVED. THE GIVEN ROWS OF THIS SEAT. 3 by the template 'for every input the law returns true; each argument reads behind the call as it read before'; 0 by the template 'total and deterministic' (their statements: YtcmpakdfebeklaaTotals.lean).
  GIVEN WITH THE SEED: the statements are not yours to turn. If you find one false, say at which input.
  Laid BY PROGRAM, IN A SANDBOX (cutbox-rows.mjs): the forced cells as the released guide's own fill.sh prints them over the translation 82e1f4d17f86cbac… (all of the seat's roots in one cut). By AI agents, Wed Nov 11 2026. No macro, syntax, notation, axiom, sorry.
-/
import Derived.Test.YtcmpakdfebeklaaChecked
import GoSem.Claim
import GoSem.ClaimJoined
import GoSem.ClaimMapViews
import Derived.JoinedTies
import Derived.KernelRfl
namespace Go.Proofs.Ytcmpakdfebeklaa
/- THE CELL 'sum', in the pinned program and in every row, IS THE sha256 OF THE DUMP (.gsa) THAT YtcmpakdfebeklaaProg.lean LOADS. Nothing in Lean hashes anything: it is a label: what it is worth is what the hold of that sum in a sandbox is worth. -/
noncomputable def Try.pinned : Pinned := { name := "ytcmpakdfebeklaa", sum := "82e1f4d17f86cbac3728704f2cd3fde6ce61508b44a63a7c67cc26f831eafcc2", checked := Try.checked }
namespace Rows
def none {H : Type} : Left H := { results := [], args := [] }

/-- 'laws.FnExactLex': WHATEVER THE INPUT: true; the input reads as it did. -/
def fnExactLexSpec : ChangeSpec := { name := "fnExactLex", fn := fun _ => fun
  | [d1, d2] => { results := [.lit (.bool true)], args := [d1, d2] }
  | _ => none }
def fnExactLexRow : OpenClaim := { program := "ytcmpakdfebeklaa", sum := "82e1f4d17f86cbac3728704f2cd3fde6ce61508b44a63a7c67cc26f831eafcc2", func := "loop.example/g00777/laws.FnExactLex", spec := "fnExactLex", inPlace := ["internal/bytealg.IndexByteString"], plainKeys := false, apart := false }
def FnExactLexSaid : Prop := fnExactLexRow.holds Try.pinned (OpenSpec.ofChange fnExactLexSpec)

/-- ITS FALSE NEIGHBOUR: 'it returns false'. Refute it at one input. -/
def fnExactLexWrong : ChangeSpec := { name := "fnExactLex", fn := fun _ => fun
  | [d1, d2] => { results := [.lit (.bool false)], args := [d1, d2] }
  | _ => none }
def FnExactLexWrongFalsely : Prop := fnExactLexRow.holds Try.pinned (OpenSpec.ofChange fnExactLexWrong)

/-- 'laws.FnLex': WHATEVER THE INPUT: true; the input reads as it did. -/
def fnLexSpec : ChangeSpec := { name := "fnLex", fn := fun _ => fun
  | [d] => { results := [.lit (.bool true)], args := [d] }
  | _ => none }
def fnLexRow : OpenClaim := { program := "ytcmpakdfebeklaa", sum := "82e1f4d17f86cbac3728704f2cd3fde6ce61508b44a63a7c67cc26f831eafcc2", func := "loop.example/g00777/laws.FnLex", spec := "fnLex", inPlace := ["internal/bytealg.IndexByteString"], plainKeys := false, apart := false }
def FnLexSaid : Prop := fnLexRow.holds Try.pinned (OpenSpec.ofChange fnLexSpec)

/-- ITS FALSE NEIGHBOUR: 'it returns false'. Refute it at one input. -/
def fnLexWrong : ChangeSpec := { name := "fnLex", fn := fun _ => fun
  | [d] => { results := [.lit (.bool false)], args := [d] }
  | _ => none }
def FnLexWrongFalsely : Prop := fnLexRow.holds Try.pinned (OpenSpec.ofChange fnLexWrong)

/-- 'laws.FnEarly': WHATEVER THE INPUT: true; the input reads as it did. -/
def fnEarlySpec : ChangeSpec := { name := "fnEarly", fn := fun _ => fun
  | [d] => { results := [.lit (.bool true)], args := [d] }
  | _ => none }
def fnEarlyRow : OpenClaim := { program := "ytcmpakdfebeklaa", sum := "82e1f4d17f86cbac3728704f2cd3fde6ce61508b44a63a7c67cc26f831eafcc2", func := "loop.example/g00777/laws.FnEarly", spec := "fnEarly", recurses := true, plainKeys := false, apart := false }
def FnEarlySaid : Prop := fnEarlyRow.holds Try.pinned (OpenSpec.ofChange fnEarlySpec)

/-- ITS FALSE NEIGHBOUR: 'it returns false'. Refute it at one input. -/
def fnEarlyWrong : ChangeSpec := { name := "fnEarly", fn := fun _ => fun
  | [d] => { results := [.lit (.bool false)], args := [d] }
  | _ => none }
def FnEarlyWrongFalsely : Prop := fnEarlyRow.holds Try.pinned (OpenSpec.ofChange fnEarlyWrong)

/- THE SECOND FORM. 'bulk': how many values and letters a reading holds, each counted each time it is reached (what is shared counts as often as it is met; a slice's spare places count too). A statement '..UptoSaid' is the law's where the arguments, and the package variables that the reading takes, are together of bulk at most 1048576: NARROWER than '..Said'. Prove '..Said' where nothing that the law and all that it calls make is longer than what came in: it says more and counts as full. Else prove '..UptoSaid'. A law counts once. -/
mutual
def uptoBulk {H : Type} : DataW H → Nat
  | .lit (.string bytes) => bytes.length + 1
  | .lit _ => 1
  | .nil => 1
  | .ptr d => uptoBulk d + 1
  | .slice elems spare => uptoBulkAll elems + uptoBulkAll spare + 1
  | .agg parts => uptoBulkAll parts + 1
  | .iface _ d => uptoBulk d + 1
  | .map entries => uptoBulkEntries entries + 1
  | .held _ => 1
def uptoBulkAll {H : Type} : List (DataW H) → Nat
  | [] => 0
  | d :: r => uptoBulk d + uptoBulkAll r
def uptoBulkEntries {H : Type} : List (Lit × DataW H) → Nat
  | [] => 0
  | x :: r => uptoBulkEntry x + uptoBulkEntries r
def uptoBulkEntry {H : Type} : Lit × DataW H → Nat
  | (.string bytes, d) => bytes.length + uptoBulk d + 1
  | (_, d) => uptoBulk d + 1
 end
def uptoSmall : (H : Type) → List (DataW H) → Bool := fun _ ds => decide (uptoBulkAll ds ≤ 1048576)
def OpenSpec.upto (s : _root_.Go.ChangeSpec) : _root_.Go.OpenSpec := { _root_.Go.OpenSpec.ofChange s with cond := some uptoSmall }

/-- 'laws.FnExactLex', WHERE WHAT IT READS IS OF BULK AT MOST 1048576: true; the input reads as it did. -/
def fnExactLexUptoRow : OpenClaim := { program := "ytcmpakdfebeklaa", sum := "82e1f4d17f86cbac3728704f2cd3fde6ce61508b44a63a7c67cc26f831eafcc2", func := "loop.example/g00777/laws.FnExactLex", spec := "fnExactLex", inPlace := ["internal/bytealg.IndexByteString"], plainKeys := false, apart := false, narrowed := true }
def FnExactLexUptoSaid : Prop := fnExactLexUptoRow.holds Try.pinned (OpenSpec.upto fnExactLexSpec)

/-- 'laws.FnLex', WHERE WHAT IT READS IS OF BULK AT MOST 1048576: true; the input reads as it did. -/
def fnLexUptoRow : OpenClaim := { program := "ytcmpakdfebeklaa", sum := "82e1f4d17f86cbac3728704f2cd3fde6ce61508b44a63a7c67cc26f831eafcc2", func := "loop.example/g00777/laws.FnLex", spec := "fnLex", inPlace := ["internal/bytealg.IndexByteString"], plainKeys := false, apart := false, narrowed := true }
def FnLexUptoSaid : Prop := fnLexUptoRow.holds Try.pinned (OpenSpec.upto fnLexSpec)

/-- 'laws.FnEarly', WHERE WHAT IT READS IS OF BULK AT MOST 1048576: true; the input reads as it did. -/
def fnEarlyUptoRow : OpenClaim := { program := "ytcmpakdfebeklaa", sum := "82e1f4d17f86cbac3728704f2cd3fde6ce61508b44a63a7c67cc26f831eafcc2", func := "loop.example/g00777/laws.FnEarly", spec := "fnEarly", recurses := true, plainKeys := false, apart := false, narrowed := true }
def FnEarlyUptoSaid : Prop := fnEarlyUptoRow.holds Try.pinned (OpenSpec.upto fnEarlySpec)

end Rows
end Go.Proofs.Ytcmpakdfebeklaa
