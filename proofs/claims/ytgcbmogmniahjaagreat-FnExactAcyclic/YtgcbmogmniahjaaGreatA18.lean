/- Facts and walks that the theorem stands on. -/
import Derived.Test.YtgcbmogmniahjaaGreatA15
namespace Go.Proofs.YtgcbmogmniahjaaGreat
open Go.RowKit Go.PlainAid Go.Deep
theorem zdQ {α:Type} {f:α->List Value} {m:Nat} (h: ∀x,(f x).length=m) (l:List α):(l.flatMap f).length=l.length*m:=zoJ f m h l
def OwnC (w:World) (base:Nat) (e:TypeId) (m g n:Nat) (cs:List Value) (c:Nat):Prop:=
 ∃xs,w.ownsRow base e m (.slice (some ⟨g,0,none⟩) n n) n xs/\∀i,i<c->xs[i]? =cs[i]?
theorem OwnC.has {w:World} {base g n m c:Nat} {e:TypeId} {A:List Value} (h:OwnC w base e m g n A c) (j:Nat) (z:j<n*m): ∃v,w.cell? ⟨g,j,none⟩=some v:=by
 obtain⟨I,q,_⟩:=h;have H:=q.1;rw[q.cellAt j z];exact⟨_,List.getElem?_eq_getElem (by omega)⟩
theorem OwnC.free {w:World} {base g n m c:Nat} {e:TypeId} {z:List Value} (h:OwnC w base e m g n z c) (j:Nat):w.frozen? ⟨g,j,none⟩=false:=by
 obtain⟨A,q,_⟩:=h;exact q.frozenAt j
theorem OwnC.put {w:World} {base g n m c:Nat} {e:TypeId} {q:List Value} (h:OwnC w base e m g n q c) {v:Value} (L:c<n*m) (A:q[c]? =some v):OwnC (w.setCell ⟨g,c,none⟩ v) base e m g n q (c+1):=by
 obtain⟨K,z,H⟩:=h;have I:=z.1;refine⟨_,(z.stored c v).1,fun j J=>?_⟩;by_cases e:j=c
 ·rw[e,List.getElem?_set,if_pos rfl,if_pos (by omega),A]
 ·rw[List.getElem?_set,if_neg (by omega)];exact H j (by omega)
theorem OwnC.lt {w:World} {base g n m c:Nat} {e:TypeId} {H:List Value} (h:OwnC w base e m g n H c):g<w.heap.size/\base<=g:=by
 obtain⟨L,I,_⟩:=h;rcases I.2 with ⟨q,_⟩|⟨M,z,A,q,J,K,_⟩
 ·simp at q
 ·simp only[Value.slice.injEq,Option.some.injEq,Addr.mk.injEq,and_true,true_and] at q;obtain⟨rfl,rfl⟩:=q;exact⟨(aLt K),J⟩
theorem OwnC.later {w w':World} {base g n m c:Nat} {e:TypeId} {I:List Value} (h:OwnC w base e m g n I c) (O:Below w.heap.size w w'):OwnC w' base e m g n I c:=by
 have A:=h.lt.1;obtain⟨N,J,L⟩:=h;refine⟨N,⟨J.1,?_⟩,L⟩;rcases J.2 with k|⟨V,K,z,H,q,U,M⟩
 ·exact .inl k
 ·simp only[Value.slice.injEq,Option.some.injEq,Addr.mk.injEq,and_true,true_and] at H;obtain⟨rfl,rfl⟩:=H;exact .inr ⟨g,n,z,rfl,q,(O.block g A).trans U,M⟩
theorem OwnC.all {w:World} {base g n m:Nat} {e:TypeId} {q:List Value} (h:OwnC w base e m g n q (n*m)) (K:q.length=n*m):OwnR w base e m ⟨some ⟨g,0,none⟩,n⟩ n q:=by
 obtain⟨H,z,A⟩:=h;have J:H=q:=by
  apply List.ext_getElem?;intro i;by_cases I:i<n*m
  ·exact A i I
  ·have:=z.1;rw[List.getElem?_eq_none (by omega),List.getElem?_eq_none (by omega)]
 rw[J] at z;exact z
def zeP (w:World) (t:TypeId) (m n:Nat) (cs:List Value) (e:Ending) (w':World):Prop:=∃g,e= .returned (.slice (some ⟨g,0,none⟩) n n)/\OwnR w' w.heap.size t m ⟨some ⟨g,0,none⟩,n⟩ n cs/\Below w.heap.size w w'
def zF {α:Type} (c:α->Nat) (l:List α):Nat:=(l.map c).sum
theorem zeo {α:Type} (c:α->Nat) {l:List α} {j:Nat} {x:α} (h:l[j]? =some x):zF c (l.take (j+1))=zF c (l.take j)+c x:=by
 obtain⟨q,rfl⟩:=List.getElem?_eq_some_iff.1 h;rw[List.take_succ_eq_append_getElem q,zF,List.map_append,List.sum_append];simp[zF]
def zbZ (x:BA):Nat:=x.size
def zca (x:Im):Nat:=x.spec.size+x.first.size+x.loc.size
def zcb (x:Ep):Nat:=x.name.size+x.loc.size+x.spec.size
def zcu (x:Sm):Nat:=x.name.size
def zcJ (x:Ex):Nat:=x.name.size+x.field.size
def zbv (m:Md):Nat:=(m.rq.length+zF zbZ m.rq)+(m.im.length+zF zca m.im)+(m.ep.length+zF zcb m.ep)+(m.st.length+zF zcu m.st)+(m.ex.length+zF zcJ m.ex)
end Go.Proofs.YtgcbmogmniahjaaGreat
