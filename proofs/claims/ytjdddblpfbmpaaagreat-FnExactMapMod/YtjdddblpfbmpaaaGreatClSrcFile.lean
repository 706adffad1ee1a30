/-
 What is known of a row of files that came in.
-/
import Derived.Test.YtjdddblpfbmpaaaGreatClTwoModToLawMark
import Derived.Deep.SlicePairs
import Derived.OpenShut
namespace Go.Proofs.YtjdddblpfbmpaaaGreat
open Go.RowKit Go.PlainAid Go.Deep
structure FSrc where
 a:Option Addr
 b:Nat
 off:Nat
 len:Nat
 cap:Nat
 Pt:Nat→ByteArray
 Tx:Nat→ByteArray
def zfw (S:FSrc) (w:World):Prop:=S.len≤9223372036854775807∧FilesAt w S.a S.b S.off S.len S.Pt S.Tx∧∀j,j<S.len→(S.Pt j).size≤9223372036854775807∧(S.Tx j).size≤9223372036854775807
theorem zpl (w:World):zfw ⟨none,0,0,0,0,fun _=>{data:=#[]},fun _=>{data:=#[]}⟩ w:=
 ⟨by simp,⟨fun h=>absurd h (Nat.lt_irrefl _),fun h=>absurd h (Nat.lt_irrefl _),fun j z=>absurd z (Nat.not_lt_zero j),fun j z=>absurd z (Nat.not_lt_zero j)⟩,fun j z=>absurd z (Nat.not_lt_zero j)⟩
theorem zpm {w:World} {x:Addr} {len L:Nat} {Pt Tx:Nat→ByteArray} (X:len≤L) (U:L≤maxLen)
  (h: ∀j,j<len→w.cell? (x.add (j*2))=some (.string (Pt j))∧w.cell? (x.add (j*2+1))=some (.string (Tx j))∧(Pt j).size≤maxLen∧(Tx j).size≤maxLen):
  zfw ⟨some x,x.block,x.off,len,L,Pt,Tx⟩ w:=by
 unfold maxLen at U h
 have O:0<len→x=⟨x.block,x.off,none⟩:=fun M=>by
  obtain⟨b,N,H⟩:=x
  have z:=(h 0 M).1
  have J:H=none:=by simpa [Addr.add] using World.cell?_spot z
  rw[J]
 have A: ∀j k,j<len→x.add k=⟨x.block,x.off+k,none⟩:=fun j k I=>by
  have e:=O (by omega)
  obtain⟨b,N,H⟩:=x
  simp only[Addr.mk.injEq,true_and] at e
  subst e
  unfold Addr.add
  split
  ·rename_i V
   rw[V,Nat.add_zero]
  ·rfl
 refine⟨by show len≤_;omega,⟨fun M=>by show some x=_;rw[←O M],fun M=>?_,fun j I=>?_,fun j I=>?_⟩,fun j I=>?_⟩
 ·have z:=(h 0 M).1
  rw[A 0 _ M] at z
  show x.block<_
  rcases Nat.lt_or_ge x.block w.heap.size with k|k
  ·exact k
  ·have e:w.heap[x.block]? =none:=Array.getElem?_eq_none k
   simp[World.cell?,e] at z
 ·have z:=(h j I).1
  rw[A j _ I] at z
  exact z
 ·have z:=(h j I).2.1
  rw[A j _ I] at z
  exact z
 ·have z:=(h j I).2.2
  simp only at z ⊢
  omega
end Go.Proofs.YtjdddblpfbmpaaaGreat