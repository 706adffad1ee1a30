/-
 Rows that came in,of elements of any make. No program is spoken of.
-/
import Derived.Test.YtjdddblpfbmpaaaGreatCmAidToTreeMath
import Derived.Deep.Slices
import Derived.OpenShut
import Derived.Below
namespace Go.Proofs.YtjdddblpfbmpaaaGreat
open Go.RowKit Go.PlainAid Go.Deep
def RowAt {α:Type} (w:World) (a:Option Addr) (f:α→List Value) (m:Nat) (l:List α):Prop:=
 l=[]∨∃b off,a=some ⟨b,off,none⟩∧b<w.heap.size∧∀j x,l[j]? =some x→∀i v,(f x)[i]? =some v→w.cell? ⟨b,off+j*m+i,none⟩=some v
theorem RowAt.later {α:Type} {w w':World} {a:Option Addr} {f:α→List Value} {m:Nat} {l:List α} (h:RowAt w a f m l) (A:Below w.heap.size w w'):RowAt w' a f m l:=by
 rcases h with h|⟨b,z,H,q,J⟩
 ·exact .inl h
 ·exact .inr ⟨b,z,H,Nat.lt_of_lt_of_le q A.size,fun j x L i v I=>by rw[A.cell q];exact J j x L i v I⟩
theorem RowAt.get {α:Type} {w:World} {a:Option Addr} {f:α→List Value} {m:Nat} {l:List α} (h:RowAt w a f m l) {j:Nat} {x:α} (z:l[j]? =some x): ∃b q,a=some ⟨b,q,none⟩∧∀i v,(f x)[i]? =some v→w.cell? ⟨b,q+j*m+i,none⟩=some v:=by
 rcases h with h|⟨b,q,H,A,I⟩
 ·rw[h] at z
  cases z
 ·exact⟨b,q,H,I j x z⟩
def zuT (left:Int) (c:Nat) (e:Ending):Prop:=∃z:Int,e= .returned (.int .i64 z)∧ -1≤z∧z≤left∧(0≤z→z+(c:Int)=left)
end Go.Proofs.YtjdddblpfbmpaaaGreat