/-
  Rows that came in,and rows of the call's own that are filled cell by cell. No program is spoken of.
  What the laws count of a program,as plain functions. No program is spoken of.
-/
import Derived.Test.YtjdddblpfbmpaaaGreatCoImplParseJToEqRow
import Derived.Test.YtjdddblpfbmpaaaGreatCoRowBase
namespace Go.Proofs.YtjdddblpfbmpaaaGreat
open Go.RowKit Go.PlainAid Go.Deep
theorem ze7 {α:Type} {f:α→List Value} {m:Nat} (h: ∀x,(f x).length=m) (l:List α):(l.flatMap f).length=l.length*m:=zlf f m h l
def OwnC (w:World) (base:Nat) (e:TypeId) (m g n:Nat) (cs:List Value) (c:Nat):Prop:=
 ∃xs,w.ownsRow base e m (.slice (some ⟨g,0,none⟩) n n) n xs∧∀i,i<c→xs[i]? =cs[i]?
theorem OwnC.has {w:World} {q g n m c:Nat} {e:TypeId} {D:List Value} (h:OwnC w q e m g n D c) (j:Nat) (A:j<n*m): ∃v,w.cell? ⟨g,j,none⟩=some v:=by
 obtain⟨H,z,_⟩:=h
 have E:=z.1
 rw[z.cellAt j A]
 exact⟨_,List.getElem?_eq_getElem (by omega)⟩
theorem OwnC.free {w:World} {q g n m c:Nat} {e:TypeId} {A:List Value} (h:OwnC w q e m g n A c) (j:Nat):w.frozen? ⟨g,j,none⟩=false:=by
 obtain⟨D,z,_⟩:=h
 exact z.frozenAt j
theorem OwnC.put {w:World} {q g n m c:Nat} {e:TypeId} {z:List Value} (h:OwnC w q e m g n z c) {v:Value} (K:c<n*m) (D:z[c]? =some v):OwnC (w.setCell ⟨g,c,none⟩ v) q e m g n z (c+1):=by
 obtain⟨J,A,E⟩:=h
 have H:=A.1
 refine⟨_,(A.stored c v).1,fun j I=>?_⟩
 by_cases e:j=c
 ·rw[e,List.getElem?_set,if_pos rfl,if_pos (by omega),D]
 ·rw[List.getElem?_set,if_neg (by omega)]
  exact E j (by omega)
theorem OwnC.lt {w:World} {j g n m c:Nat} {e:TypeId} {D:List Value} (h:OwnC w j e m g n D c):g<w.heap.size∧j≤g:=by
 obtain⟨J,E,_⟩:=h
 rcases E.2 with ⟨q,_⟩|⟨K,z,A,q,H,I,_⟩
 ·simp at q
 ·simp only[Value.slice.injEq,Option.some.injEq,Addr.mk.injEq,and_true,true_and] at q
  obtain⟨rfl,rfl⟩:=q
  exact⟨(Array.getElem?_eq_some_iff.1 I).1,H⟩
theorem OwnC.later {w D:World} {j g n m c:Nat} {e:TypeId} {H:List Value} (h:OwnC w j e m g n H c) (N:Below w.heap.size w D):OwnC D j e m g n H c:=by
 have A:=h.lt.1
 obtain⟨M,I,K⟩:=h
 refine⟨M,⟨I.1,?_⟩,K⟩
 rcases I.2 with k|⟨U,J,z,E,q,O,L⟩
 ·exact .inl k
 ·simp only[Value.slice.injEq,Option.some.injEq,Addr.mk.injEq,and_true,true_and] at E
  obtain⟨rfl,rfl⟩:=E
  exact .inr ⟨g,n,z,rfl,q,(N.block g A).trans O,L⟩
theorem OwnC.all {w:World} {j g n m:Nat} {e:TypeId} {q:List Value} (h:OwnC w j e m g n q (n*m)) (I:q.length=n*m):OwnR w j e m ⟨some ⟨g,0,none⟩,n⟩ n q:=by
 obtain⟨D,z,A⟩:=h
 have H:D=q:=by
  apply List.ext_getElem?
  intro i
  by_cases E:i<n*m
  ·exact A i E
  ·have:=z.1
   rw[List.getElem?_eq_none (by omega),List.getElem?_eq_none (by omega)]
 rw[H] at z
 exact z
def ze8 (w:World) (t:TypeId) (m n:Nat) (cs:List Value) (e:Ending) (w':World):Prop:=∃g,e= .returned (.slice (some ⟨g,0,none⟩) n n)∧OwnR w' w.heap.size t m ⟨some ⟨g,0,none⟩,n⟩ n cs∧Below w.heap.size w w'
def zP {α:Type} (c:α→Nat) (l:List α):Nat:=(l.map c).sum
theorem ze9 {α:Type} (c:α→Nat) {l:List α} {j:Nat} {x:α} (h:l[j]? =some x):zP c (l.take (j+1))=zP c (l.take j)+c x:=by
 obtain⟨n,rfl⟩:=List.getElem?_eq_some_iff.1 h
 rw[List.take_succ_eq_append_getElem n,zP,List.map_append,List.sum_append]
 simp[zP]
def zbW (x:ByteArray):Nat:=x.size
def zbA (x:Im):Nat:=x.spec.size+x.first.size+x.loc.size
def zbB (x:Ep):Nat:=x.name.size+x.loc.size+x.spec.size
def zbX (x:Sm):Nat:=x.name.size
def zct (x:Ex):Nat:=x.name.size+x.field.size
def zcE (m:Md):Nat:=(m.rq.length+zP zbW m.rq)+(m.im.length+zP zbA m.im)+(m.ep.length+zP zbB m.ep)+(m.st.length+zP zbX m.st)+(m.ex.length+zP zct m.ex)
end Go.Proofs.YtjdddblpfbmpaaaGreat
