/-
 Rows that came in,and rows of the call's own that are filled cell by cell. No program is spoken of.
-/
import Derived.Test.YtjdddblpfbmpaaaGreatClImplParseJToEqRow
import Derived.Test.YtjdddblpfbmpaaaGreatClRowBase
namespace Go.Proofs.YtjdddblpfbmpaaaGreat
open Go.RowKit Go.PlainAid Go.Deep
theorem zfu {α:Type} {f:α→List Value} {m:Nat} (h: ∀x,(f x).length=m) (l:List α):(l.flatMap f).length=l.length*m:=zns f m h l
def OwnC (w:World) (base:Nat) (e:TypeId) (m g n:Nat) (cs:List Value) (c:Nat):Prop:=
 ∃xs,w.ownsRow base e m (.slice (some ⟨g,0,none⟩) n n) n xs∧∀i,i<c→xs[i]? =cs[i]?
theorem OwnC.has {w:World} {z g n m c:Nat} {e:TypeId} {I:List Value} (h:OwnC w z e m g n I c) (j:Nat) (H:j<n*m): ∃v,w.cell? ⟨g,j,none⟩=some v:=by
 obtain⟨L,A,_⟩:=h
 have J:=A.1
 rw[A.cellAt j H]
 exact⟨_,List.getElem?_eq_getElem (by omega)⟩
theorem OwnC.free {w:World} {z g n m c:Nat} {e:TypeId} {H:List Value} (h:OwnC w z e m g n H c) (j:Nat):w.frozen? ⟨g,j,none⟩=false:=by
 obtain⟨I,A,_⟩:=h
 exact A.frozenAt j
theorem OwnC.put {w:World} {z g n m c:Nat} {e:TypeId} {A:List Value} (h:OwnC w z e m g n A c) {v:Value} (O:c<n*m) (I:A[c]? =some v):OwnC (w.setCell ⟨g,c,none⟩ v) z e m g n A (c+1):=by
 obtain⟨N,H,J⟩:=h
 have L:=H.1
 refine⟨_,(H.stored c v).1,fun j M=>?_⟩
 by_cases e:j=c
 ·rw[e,List.getElem?_set,if_pos rfl,if_pos (by omega),I]
 ·rw[List.getElem?_set,if_neg (by omega)]
  exact J j (by omega)
theorem OwnC.lt {w:World} {j g n m c:Nat} {e:TypeId} {I:List Value} (h:OwnC w j e m g n I c):g<w.heap.size∧j≤g:=by
 obtain⟨N,J,_⟩:=h
 rcases J.2 with ⟨z,_⟩|⟨O,A,H,z,L,M,_⟩
 ·simp at z
 ·simp only[Value.slice.injEq,Option.some.injEq,Addr.mk.injEq,and_true,true_and] at z
  obtain⟨rfl,rfl⟩:=z
  exact⟨(Array.getElem?_eq_some_iff.1 M).1,L⟩
theorem OwnC.later {w w':World} {j g n m c:Nat} {e:TypeId} {J:List Value} (h:OwnC w j e m g n J c) (V:Below w.heap.size w w'):OwnC w' j e m g n J c:=by
 have H:=h.lt.1
 obtain⟨U,L,N⟩:=h
 refine⟨U,⟨L.1,?_⟩,N⟩
 rcases L.2 with k|⟨Y,M,A,I,z,X,O⟩
 ·exact .inl k
 ·simp only[Value.slice.injEq,Option.some.injEq,Addr.mk.injEq,and_true,true_and] at I
  obtain⟨rfl,rfl⟩:=I
  exact .inr ⟨g,n,A,rfl,z,(V.block g H).trans X,O⟩
theorem OwnC.all {w:World} {j g n m:Nat} {e:TypeId} {z:List Value} (h:OwnC w j e m g n z (n*m)) (M:z.length=n*m):OwnR w j e m ⟨some ⟨g,0,none⟩,n⟩ n z:=by
 obtain⟨I,A,H⟩:=h
 have L:I=z:=by
  apply List.ext_getElem?
  intro i
  by_cases J:i<n*m
  ·exact H i J
  ·have:=A.1
   rw[List.getElem?_eq_none (by omega),List.getElem?_eq_none (by omega)]
 rw[L] at A
 exact A
def zfv (w:World) (t:TypeId) (m n:Nat) (cs:List Value) (e:Ending) (w':World):Prop:=∃g,e= .returned (.slice (some ⟨g,0,none⟩) n n)∧OwnR w' w.heap.size t m ⟨some ⟨g,0,none⟩,n⟩ n cs∧Below w.heap.size w w'
end Go.Proofs.YtjdddblpfbmpaaaGreat