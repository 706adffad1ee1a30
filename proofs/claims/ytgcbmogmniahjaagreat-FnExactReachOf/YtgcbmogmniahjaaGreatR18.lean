/- Facts and walks. -/
import Derived.Test.YtgcbmogmniahjaaGreatR15
namespace Go.Proofs.YtgcbmogmniahjaaGreat
open Go.RowKit Go.PlainAid Go.Deep
theorem zdZ {α:Type} {f:α->List Value} {m:Nat} (h: ∀x,(f x).length=m) (l:List α):(l.flatMap f).length=l.length*m:=zpf f m h l
def OwnC (w:World) (base:Nat) (e:TypeId) (m g n:Nat) (cs:List Value) (c:Nat):Prop:=
 ∃xs,w.ownsRow base e m (.slice (some ⟨g,0,none⟩) n n) n xs/\∀i,i<c->xs[i]? =cs[i]?
variable {w:World} {g b c:Nat} {W:TypeId} {C:List Value}
theorem OwnC.has {S s:Nat} (h:OwnC w g W c S b C s) (j:Nat) (z:j<b*c): ∃v,w.cell? ⟨S,j,none⟩=some v:=by
 obtain⟨E,q,_⟩:=h;have D:=q.1;rw[q.cellAt j z];exact⟨_,List.getElem?_eq_getElem (by omega)⟩
theorem OwnC.free {S s:Nat} (h:OwnC w g W c S b C s) (j:Nat):w.frozen? ⟨S,j,none⟩=false:=by
 obtain⟨A,q,_⟩:=h;exact q.frozenAt j
theorem OwnC.put {S s:Nat} {e:TypeId} (h:OwnC w g e c S b C s) {v:Value} (J:s<b*c) (A:C[s]? =some v):OwnC (w.setCell ⟨S,s,none⟩ v) g e c S b C (s+1):=by
 obtain⟨I,z,D⟩:=h;have E:=z.1;refine⟨_,(z.stored s v).1,fun j H=>?_⟩;by_cases e:j=s
 ·rw[e,List.getElem?_set,if_pos rfl,if_pos (by omega),A]
 ·rw[List.getElem?_set,if_neg (by omega)];exact D j (by omega)
theorem OwnC.lt {base g S:Nat} (h:OwnC w base W c g b C S):g<w.heap.size/\base<=g:=by
 obtain⟨J,E,_⟩:=h;rcases E.2 with ⟨q,_⟩|⟨K,z,A,q,H,I,_⟩
 ·simp at q
 ·simp only[Value.slice.injEq,Option.some.injEq,Addr.mk.injEq,and_true,true_and] at q;obtain⟨rfl,rfl⟩:=q;exact⟨(aLt I),H⟩
theorem OwnC.later {D:World} {S s:Nat} (h:OwnC w g W c S b C s) (N:Bw w D):OwnC D g W c S b C s:=by
 have A:=h.lt.1;obtain⟨M,I,K⟩:=h;refine⟨M,⟨I.1,?_⟩,K⟩;rcases I.2 with k|⟨U,J,z,E,q,O,L⟩
 ·exact .inl k
 ·simp only[Value.slice.injEq,Option.some.injEq,Addr.mk.injEq,and_true,true_and] at E;obtain⟨rfl,rfl⟩:=E;exact .inr ⟨S,b,z,rfl,q,(N.block S A).trans O,L⟩
theorem OwnC.all {S:Nat} (h:OwnC w g W c S b C (b*c)) (I:C.length=b*c):OwnR w g W c ⟨some ⟨S,0,none⟩,b⟩ b C:=by
 obtain⟨D,z,A⟩:=h;have H:D=C:=by
  apply List.ext_getElem?;intro i;by_cases E:i<b*c
  ·exact A i E
  ·have:=z.1;rw[List.getElem?_eq_none (by omega),List.getElem?_eq_none (by omega)]
 rw[H] at z;exact z
def zeZ (w:World) (t:TypeId) (m n:Nat) (cs:List Value) (e:Ending) (w':World):Prop:=∃g,e= .returned (.slice (some ⟨g,0,none⟩) n n)/\OwnR w' w.heap.size t m ⟨some ⟨g,0,none⟩,n⟩ n cs/\Bw w w'
def zD {α:Type} (c:α->Nat) (l:List α):Nat:=(l.map c).sum
theorem zey {α:Type} (c:α->Nat) {l:List α} {x:α} (h:l[g]? =some x):zD c (l.take (g+1))=zD c (l.take g)+c x:=by
 obtain⟨q,rfl⟩:=List.getElem?_eq_some_iff.1 h;rw[List.take_succ_eq_append_getElem q,zD,List.map_append,List.sum_append];simp[zD]
def zbX (x:BA):Nat:=x.size
def zcf (x:Im):Nat:=x.spec.size+x.first.size+x.loc.size
def zcg (x:Ep):Nat:=x.name.size+x.loc.size+x.spec.size
def zcx (x:Sm):Nat:=x.name.size
def zcM (x:Ex):Nat:=x.name.size+x.field.size
def zbi (m:Md):Nat:=(m.rq.length+zD zbX m.rq)+(m.im.length+zD zcf m.im)+(m.ep.length+zD zcg m.ep)+(m.st.length+zD zcx m.st)+(m.ex.length+zD zcM m.ex)
end Go.Proofs.YtgcbmogmniahjaaGreat
