/-
  How many files there are behind one that is put. No program is spoken of.
-/
import Derived.Test.YtdbpknmoacjodaaCpSpecPutFileToMarkRow
namespace Go.Proofs.Ytdbpknmoacjodaa

theorem filesB_len {len : Nat} {Pt Tx : Nat → ByteArray} (h : filesB len Pt Tx = true) : len ≤ 1048576 := by
  have := filesB_iff.1 h
  have h1 := this.1
  omega
theorem putS_len (len : Nat) (Pt Tx : Nat → ByteArray) (x : Fl) (hl : len ≤ 1048576) : (putS len Pt Tx x).1.length ≤ 1048576 := by
  unfold putS
  split
  · split
    · rename_i h
      exact filesB_len h
    · simpa [flsOf] using hl
  · simp
end Go.Proofs.Ytdbpknmoacjodaa
