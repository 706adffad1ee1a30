/- Facts and walks that the theorem stands on. -/
import Derived.Test.YtgcbmogmniahjaaGreatG15
namespace Go.Proofs.YtgcbmogmniahjaaGreat
open Go.RowKit Go.PlainAid Go.Deep
theorem zdH {α:Type} {f:α->List Value} {m:Nat} (h: ∀x,(f x).length=m) (l:List α):(l.flatMap f).length=l.length*m:=zos f m h l
def OwnC (w:World) (base:Nat) (e:TypeId) (m g n:Nat) (cs:List Value) (c:Nat):Prop:=
 ∃xs,w.ownsRow base e m (.slice (some ⟨g,0,none⟩) n n) n xs/\∀i,i<c->xs[i]? =cs[i]?
theorem OwnC.has {w:World} {base g n m c:Nat} {e:TypeId} {A:List Value} (h:OwnC w base e m g n A c) (j:Nat) (z:j<n*m): ∃v,w.cell? ⟨g,j,none⟩=some v:=by
 obtain⟨E,q,_⟩:=h;have D:=q.1;rw[q.cellAt j z];exact⟨_,List.getElem?_eq_getElem (by omega)⟩
theorem OwnC.free {w:World} {base g n m c:Nat} {e:TypeId} {z:List Value} (h:OwnC w base e m g n z c) (j:Nat):w.frozen? ⟨g,j,none⟩=false:=by
 obtain⟨A,q,_⟩:=h;exact q.frozenAt j
theorem OwnC.put {w:World} {base g n m c:Nat} {e:TypeId} {q:List Value} (h:OwnC w base e m g n q c) {v:Value} (J:c<n*m) (A:q[c]? =some v):OwnC (w.setCell ⟨g,c,none⟩ v) base e m g n q (c+1):=by
 obtain⟨I,z,D⟩:=h;have E:=z.1;refine⟨_,(z.stored c v).1,fun j H=>?_⟩;by_cases e:j=c
 ·rw[e,List.getElem?_set,if_pos rfl,if_pos (by omega),A]
 ·rw[List.getElem?_set,if_neg (by omega)];exact D j (by omega)
theorem OwnC.lt {w:World} {base g n m c:Nat} {e:TypeId} {D:List Value} (h:OwnC w base e m g n D c):g<w.heap.size/\base<=g:=by
 obtain⟨J,E,_⟩:=h;rcases E.2 with ⟨q,_⟩|⟨K,z,A,q,H,I,_⟩
 ·simp at q
 ·simp only[Value.slice.injEq,Option.some.injEq,Addr.mk.injEq,and_true,true_and] at q;obtain⟨rfl,rfl⟩:=q;exact⟨(aLt I),H⟩
theorem OwnC.later {w D:World} {base g n m c:Nat} {e:TypeId} {H:List Value} (h:OwnC w base e m g n H c) (N:Below w.heap.size w D):OwnC D base e m g n H c:=by
 have A:=h.lt.1;obtain⟨M,I,K⟩:=h;refine⟨M,⟨I.1,?_⟩,K⟩;rcases I.2 with k|⟨U,J,z,E,q,O,L⟩
 ·exact .inl k
 ·simp only[Value.slice.injEq,Option.some.injEq,Addr.mk.injEq,and_true,true_and] at E;obtain⟨rfl,rfl⟩:=E;exact .inr ⟨g,n,z,rfl,q,(N.block g A).trans O,L⟩
theorem OwnC.all {w:World} {base g n m:Nat} {e:TypeId} {q:List Value} (h:OwnC w base e m g n q (n*m)) (I:q.length=n*m):OwnR w base e m ⟨some ⟨g,0,none⟩,n⟩ n q:=by
 obtain⟨D,z,A⟩:=h;have H:D=q:=by
  apply List.ext_getElem?;intro i;by_cases E:i<n*m
  ·exact A i E
  ·have:=z.1;rw[List.getElem?_eq_none (by omega),List.getElem?_eq_none (by omega)]
 rw[H] at z;exact z
def zeH (w:World) (t:TypeId) (m n:Nat) (cs:List Value) (e:Ending) (w':World):Prop:=∃g,e= .returned (.slice (some ⟨g,0,none⟩) n n)/\OwnR w' w.heap.size t m ⟨some ⟨g,0,none⟩,n⟩ n cs/\Below w.heap.size w w'
def zE {α:Type} (c:α->Nat) (l:List α):Nat:=(l.map c).sum
theorem zeg {α:Type} (c:α->Nat) {l:List α} {j:Nat} {x:α} (h:l[j]? =some x):zE c (l.take (j+1))=zE c (l.take j)+c x:=by
 obtain⟨q,rfl⟩:=List.getElem?_eq_some_iff.1 h;rw[List.take_succ_eq_append_getElem q,zE,List.map_append,List.sum_append];simp[zE]
def zbW (x:BA):Nat:=x.size
def zbX (x:Im):Nat:=x.spec.size+x.first.size+x.loc.size
def zbY (x:Ep):Nat:=x.name.size+x.loc.size+x.spec.size
def zcp (x:Sm):Nat:=x.name.size
def zcE (x:Ex):Nat:=x.name.size+x.field.size
def zbu (m:Md):Nat:=(m.rq.length+zE zbW m.rq)+(m.im.length+zE zbX m.im)+(m.ep.length+zE zbY m.ep)+(m.st.length+zE zcp m.st)+(m.ex.length+zE zcE m.ex)
end Go.Proofs.YtgcbmogmniahjaaGreat
