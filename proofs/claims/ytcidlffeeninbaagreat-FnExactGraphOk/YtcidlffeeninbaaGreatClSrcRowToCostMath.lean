/-
  Rows that came in,and rows of the call's own that are filled cell by cell. No program is spoken of.
  What the laws count of a program,as plain functions. No program is spoken of.
-/
import Derived.Test.YtcidlffeeninbaaGreatClImplParseJToEqRow
import Derived.Test.YtcidlffeeninbaaGreatClRowBase
namespace Go.Proofs.YtcidlffeeninbaaGreat
open Go.RowKit Go.PlainAid Go.Deep
theorem zdF {α:Type} {f:α→List Value} {m:Nat} (h: ∀x,(f x).length=m) (l:List α):(l.flatMap f).length=l.length*m:=znX f m h l
def OwnC (w:World) (base:Nat) (e:TypeId) (m g n:Nat) (cs:List Value) (c:Nat):Prop:=
 ∃xs,w.ownsRow base e m (.slice (some ⟨g,0,none⟩) n n) n xs∧∀i,i<c→xs[i]? =cs[i]?
theorem OwnC.has {w:World} {q g n m c:Nat} {e:TypeId} {D:List Value} (h:OwnC w q e m g n D c) (j:Nat) (A:j<n*m): ∃v,w.cell? ⟨g,j,none⟩=some v:=by
 obtain⟨H,z,_⟩:=h
 have E:=z.1
 rw[z.cellAt j A]
 exact⟨_,List.getElem?_eq_getElem (by omega)⟩
theorem OwnC.free {w:World} {q g n m c:Nat} {e:TypeId} {A:List Value} (h:OwnC w q e m g n A c) (j:Nat):w.frozen? ⟨g,j,none⟩=false:=by
 obtain⟨D,z,_⟩:=h
 exact z.frozenAt j
theorem OwnC.put {w:World} {q g n m c:Nat} {e:TypeId} {z:List Value} (h:OwnC w q e m g n z c) {v:Value} (I:c<n*m) (D:z[c]? =some v):OwnC (w.setCell ⟨g,c,none⟩ v) q e m g n z (c+1):=by
 obtain⟨K,A,E⟩:=h
 have H:=A.1
 refine⟨_,(A.stored c v).1,fun j J=>?_⟩
 by_cases e:j=c
 ·rw[e,List.getElem?_set,if_pos rfl,if_pos (by omega),D]
 ·rw[List.getElem?_set,if_neg (by omega)]
  exact E j (by omega)
theorem OwnC.lt {w:World} {q g n m c:Nat} {e:TypeId} {J:List Value} (h:OwnC w q e m g n J c):g<w.heap.size∧q≤g:=by
 obtain⟨L,D,_⟩:=h
 rcases D.2 with ⟨z,_⟩|⟨K,A,I,z,H,E,_⟩
 ·simp at z
 ·simp only[Value.slice.injEq,Option.some.injEq,Addr.mk.injEq,and_true,true_and] at z
  obtain⟨rfl,rfl⟩:=z
  exact⟨(Array.getElem?_eq_some_iff.1 E).1,H⟩
theorem OwnC.later {w E:World} {q g n m c:Nat} {e:TypeId} {K:List Value} (h:OwnC w q e m g n K c) (N:Below w.heap.size w E):OwnC E q e m g n K c:=by
 have D:=h.lt.1
 obtain⟨O,J,M⟩:=h
 refine⟨O,⟨J.1,?_⟩,M⟩
 rcases J.2 with k|⟨V,I,A,H,z,L,U⟩
 ·exact .inl k
 ·simp only[Value.slice.injEq,Option.some.injEq,Addr.mk.injEq,and_true,true_and] at H
  obtain⟨rfl,rfl⟩:=H
  exact .inr ⟨g,n,A,rfl,z,(N.block g D).trans L,U⟩
theorem OwnC.all {w:World} {q g n m:Nat} {e:TypeId} {z:List Value} (h:OwnC w q e m g n z (n*m)) (J:z.length=n*m):OwnR w q e m ⟨some ⟨g,0,none⟩,n⟩ n z:=by
 obtain⟨H,A,E⟩:=h
 have D:H=z:=by
  apply List.ext_getElem?
  intro i
  by_cases I:i<n*m
  ·exact E i I
  ·have:=A.1
   rw[List.getElem?_eq_none (by omega),List.getElem?_eq_none (by omega)]
 rw[D] at A
 exact A
def zeJ (w:World) (t:TypeId) (m n:Nat) (cs:List Value) (e:Ending) (w':World):Prop:=∃g,e= .returned (.slice (some ⟨g,0,none⟩) n n)∧OwnR w' w.heap.size t m ⟨some ⟨g,0,none⟩,n⟩ n cs∧Below w.heap.size w w'
def zE {α:Type} (c:α→Nat) (l:List α):Nat:=(l.map c).sum
theorem zeg {α:Type} (c:α→Nat) {l:List α} {j:Nat} {x:α} (h:l[j]? =some x):zE c (l.take (j+1))=zE c (l.take j)+c x:=by
 obtain⟨q,rfl⟩:=List.getElem?_eq_some_iff.1 h
 rw[List.take_succ_eq_append_getElem q,zE,List.map_append,List.sum_append]
 simp[zE]
def zbU (x:ByteArray):Nat:=x.size
def zbV (x:Im):Nat:=x.spec.size+x.first.size+x.loc.size
def zbW (x:Ep):Nat:=x.name.size+x.loc.size+x.spec.size
def zco (x:Sm):Nat:=x.name.size
def zcF (x:Ex):Nat:=x.name.size+x.field.size
def zb4 (m:Md):Nat:=(m.rq.length+zE zbU m.rq)+(m.im.length+zE zbV m.im)+(m.ep.length+zE zbW m.ep)+(m.st.length+zE zco m.st)+(m.ex.length+zE zcF m.ex)
end Go.Proofs.YtcidlffeeninbaaGreat
