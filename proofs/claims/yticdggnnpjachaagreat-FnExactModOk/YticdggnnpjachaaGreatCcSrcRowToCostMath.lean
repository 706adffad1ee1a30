/-
  Rows that came in,and rows of the call's own that are filled cell by cell. No program is spoken of.
  What the laws count of a program,as plain functions. No program is spoken of.
-/
import Derived.Deep.Slices
import Derived.OpenShut
import Derived.Test.YticdggnnpjachaaGreatCcImplParseJToEqRow
namespace Go.Proofs.YticdggnnpjachaaGreat
open Go.RowKit Go.PlainAid Go.Deep
def RowAt {α:Type} (w:World) (a:Option Addr) (f:α→List Value) (m:Nat) (l:List α):Prop:=
 l=[]∨∃b off,a=some ⟨b,off,none⟩∧b<w.heap.size∧∀j x,l[j]? =some x→∀i v,(f x)[i]? =some v→w.cell? ⟨b,off+j*m+i,none⟩=some v
theorem RowAt.later {α:Type} {w z:World} {a:Option Addr} {f:α→List Value} {m:Nat} {l:List α} (h:RowAt w a f m l) (q:Below w.heap.size w z):RowAt z a f m l:=by
 rcases h with h|⟨b,o,A,n,H⟩
 ·exact .inl h
 ·exact .inr ⟨b,o,A,Nat.lt_of_lt_of_le n q.size,fun j x E i v D=>by rw[q.cell n];exact H j x E i v D⟩
theorem RowAt.get {α:Type} {w:World} {a:Option Addr} {f:α→List Value} {m:Nat} {l:List α} (h:RowAt w a f m l) {j:Nat} {x:α} (o:l[j]? =some x): ∃b n,a=some ⟨b,n,none⟩∧∀i v,(f x)[i]? =some v→w.cell? ⟨b,n+j*m+i,none⟩=some v:=by
 rcases h with h|⟨b,n,q,z,A⟩
 ·rw[h] at o
  cases o
 ·exact⟨b,n,q,A j x o⟩
theorem zbx {α:Type} {f:α→List Value} {m:Nat} (n: ∀x,(f x).length=m) (l:List α): ∀(k:Nat) (x:α) (i:Nat) (v:Value),l[k]? =some x→(f x)[i]? =some v→(l.flatMap f)[k*m+i]? =some v:=by
 induction l with
 |nil=>intro k x i v h;cases h
 |cons y l o=>
  intro k x i v h j
  rw[List.flatMap_cons]
  cases k with
  |zero=>
   cases h
   rw[Nat.zero_mul,Nat.zero_add,List.getElem?_append_left (by rw[List.getElem?_eq_some_iff] at j;exact j.1)]
   exact j
  |succ k=>
   rw[List.getElem?_append_right (by rw[n,Nat.succ_mul];omega),n,show (k+1)*m+i-m=k*m+i by rw[Nat.succ_mul];omega]
   exact o k x i v h j
theorem ze9 {α:Type} {f:α→List Value} {m:Nat} (h: ∀x,(f x).length=m) (l:List α):(l.flatMap f).length=l.length*m:=zla f m h l
def OwnC (w:World) (base:Nat) (e:TypeId) (m g n:Nat) (cs:List Value) (c:Nat):Prop:=
 ∃xs,w.ownsRow base e m (.slice (some ⟨g,0,none⟩) n n) n xs∧∀i,i<c→xs[i]? =cs[i]?
theorem OwnC.has {w:World} {o g n m c:Nat} {e:TypeId} {z:List Value} (h:OwnC w o e m g n z c) (j:Nat) (A:j<n*m): ∃v,w.cell? ⟨g,j,none⟩=some v:=by
 obtain⟨E,q,_⟩:=h
 have D:=q.1
 rw[q.cellAt j A]
 exact⟨_,List.getElem?_eq_getElem (by omega)⟩
theorem OwnC.free {w:World} {o g n m c:Nat} {e:TypeId} {q:List Value} (h:OwnC w o e m g n q c) (j:Nat):w.frozen? ⟨g,j,none⟩=false:=by
 obtain⟨A,z,_⟩:=h
 exact z.frozenAt j
theorem OwnC.put {w:World} {o g n m c:Nat} {e:TypeId} {q:List Value} (h:OwnC w o e m g n q c) {v:Value} (J:c<n*m) (A:q[c]? =some v):OwnC (w.setCell ⟨g,c,none⟩ v) o e m g n q (c+1):=by
 obtain⟨H,z,D⟩:=h
 have E:=z.1
 refine⟨_,(z.stored c v).1,fun j I=>?_⟩
 by_cases e:j=c
 ·rw[e,List.getElem?_set,if_pos rfl,if_pos (by omega),A]
 ·rw[List.getElem?_set,if_neg (by omega)]
  exact D j (by omega)
theorem OwnC.lt {w:World} {j g n m c:Nat} {e:TypeId} {D:List Value} (h:OwnC w j e m g n D c):g<w.heap.size∧j≤g:=by
 obtain⟨J,H,_⟩:=h
 rcases H.2 with ⟨o,_⟩|⟨I,q,E,o,z,A,_⟩
 ·simp at o
 ·simp only[Value.slice.injEq,Option.some.injEq,Addr.mk.injEq,and_true,true_and] at o
  obtain⟨rfl,rfl⟩:=o
  exact⟨(Array.getElem?_eq_some_iff.1 A).1,z⟩
theorem OwnC.later {w A:World} {j g n m c:Nat} {e:TypeId} {D:List Value} (h:OwnC w j e m g n D c) (K:Below w.heap.size w A):OwnC A j e m g n D c:=by
 have z:=h.lt.1
 obtain⟨L,I,N⟩:=h
 refine⟨L,⟨I.1,?_⟩,N⟩
 rcases I.2 with k|⟨O,H,q,E,o,J,M⟩
 ·exact .inl k
 ·simp only[Value.slice.injEq,Option.some.injEq,Addr.mk.injEq,and_true,true_and] at E
  obtain⟨rfl,rfl⟩:=E
  exact .inr ⟨g,n,q,rfl,o,(K.block g z).trans J,M⟩
theorem OwnC.all {w:World} {j g n m:Nat} {e:TypeId} {o:List Value} (h:OwnC w j e m g n o (n*m)) (H:o.length=n*m):OwnR w j e m ⟨some ⟨g,0,none⟩,n⟩ n o:=by
 obtain⟨A,q,E⟩:=h
 have D:A=o:=by
  apply List.ext_getElem?
  intro i
  by_cases z:i<n*m
  ·exact E i z
  ·have:=q.1
   rw[List.getElem?_eq_none (by omega),List.getElem?_eq_none (by omega)]
 rw[D] at q
 exact q
def zcG (left:Int) (c:Nat) (e:Ending):Prop:=∃z:Int,e= .returned (.int .i64 z)∧ -1≤z∧z≤left∧(0≤z→z+(c:Int)=left)
def zeA (w:World) (t:TypeId) (m n:Nat) (cs:List Value) (e:Ending) (w':World):Prop:=∃g,e= .returned (.slice (some ⟨g,0,none⟩) n n)∧OwnR w' w.heap.size t m ⟨some ⟨g,0,none⟩,n⟩ n cs∧Below w.heap.size w w'
theorem zpT {w:World} {y:Addr} {v:Value} (h:w.cell? (y.add 0)=some v):y=⟨y.block,y.off,none⟩∧y.block<w.heap.size:=by
 have o:y.add 0=y:=by unfold Addr.add;simp
 rw[o] at h
 obtain⟨b,z,j⟩:=y
 have q:j=none:=by simpa using World.cell?_spot h
 subst q
 refine⟨rfl,?_⟩
 show b<_
 rcases Nat.lt_or_ge b w.heap.size with n|n
 ·exact n
 ·have A:w.heap[b]? =none:=Array.getElem?_eq_none n
  simp[World.cell?,A] at h
theorem zpU {y:Addr} (h:y=⟨y.block,y.off,none⟩) (k:Nat):y.add k=⟨y.block,y.off+k,none⟩:=by
 obtain⟨b,n,j⟩:=y
 simp only[Addr.mk.injEq,true_and] at h
 subst h
 unfold Addr.add
 split
 ·rename_i o
  rw[o,Nat.add_zero]
 ·rfl
theorem zeB {H:Type} {enc:TypeId×Value→H} {P:Program} {w:World} {E U:Nat} {A:Nat→Bool} {I:Bool} {α:Type} (x0:α) {f:α→List Value} {m:Nat} (ab:0<m) (hf: ∀x,(f x).length=m) {Q:α→Prop} {t e:TypeId} {v:Value} {z:DataW H×List MemPlace}
  (ht:P.underlying t=some (.slice e)) (ce:P.cellsOf e=m) (hd: ∀n cs y,DataW.trod enc P w E A I n e cs=some y→cs.length=m→∃x,cs=f x∧Q x)
  (h:DataW.trod enc P w E A I U t [v]=some z): ∃(a:Option Addr) (L:Nat) (l:List α),v= .slice a l.length L∧l.length≤maxLen∧RowAt w a f m l∧∀x∈l,Q x:=by
 haveI:Inhabited α:=⟨x0⟩
 rcases open_slice ht h with ⟨V,_⟩|⟨a,q,L,mm,n,D,Pl,V,hb,hl,hm,aa,_,N⟩
 ·simp only[List.cons.injEq,and_true] at V
  exact⟨none,0,[],V,Nat.zero_le _,.inl rfl,fun x N=>by cases N⟩
 ·simp only[List.cons.injEq,and_true] at V
  have ad:q≤mm:=by rw[aa];split<;>omega
  have M: ∀i,i<q→∃x:α,Q x∧∀j v,(f x)[j]? =some v→w.cell? (a.add (i*m+j))=some v:=by
   intro i hi
   obtain⟨ac,h1,h2⟩:=N i (by omega)
   rw[ce] at h1
   obtain⟨_,o,K⟩:=World.cells?_some h1
   obtain⟨x,rfl,hq⟩:=hd _ _ _ h2 o
   refine⟨x,hq,fun j v Y=>?_⟩
   have X:j<m:=by have:=(List.getElem?_eq_some_iff.1 Y).1;rw[hf] at this;exact this
   have:=K j (by omega)
   rw[add_add] at this
   rw[this]
   exact Y
  obtain⟨g,Z⟩:=choose_lt M
  have o:((List.range q).map g).length=q:=by simp
  refine⟨some a,L,(List.range q).map g,by rw[o];exact V,by rw[o];omega,?_,?_⟩
  ·by_cases hz:q=0
   ·exact .inl (by rw[hz];rfl)
   ·have J: ∃v0,w.cell? (a.add 0)=some v0:=by
     have:=(Z 0 (by omega)).2 0 ((f (g 0))[0]'(by rw[hf];exact ab)) (List.getElem?_eq_getElem _)
     rw[Nat.zero_mul] at this
     exact⟨_,this⟩
    obtain⟨v0,J⟩:=J
    have ha:=zpT J
    refine .inr ⟨a.block,a.off,by rw[←ha.1],ha.2,fun j x X i v Y=>?_⟩
    have O:j<q:=by have:=(List.getElem?_eq_some_iff.1 X).1;rw[o] at this;exact this
    rw[List.getElem?_map,List.getElem?_range O] at X
    cases X
    have hc:=(Z j O).2 i v Y
    rw[zpU ha.1] at hc
    rw[Nat.add_assoc]
    exact hc
  ·intro x N
   obtain⟨i,hi,rfl⟩:=List.mem_map.1 N
   exact (Z i (List.mem_range.1 hi)).1
def zQ {α:Type} (c:α→Nat) (l:List α):Nat:=(l.map c).sum
theorem zeC {α:Type} (c:α→Nat) {l:List α} {j:Nat} {x:α} (h:l[j]? =some x):zQ c (l.take (j+1))=zQ c (l.take j)+c x:=by
 obtain⟨n,rfl⟩:=List.getElem?_eq_some_iff.1 h
 rw[List.take_succ_eq_append_getElem n,zQ,List.map_append,List.sum_append]
 simp[zQ]
def zca (x:ByteArray):Nat:=x.size
def zbE (x:Im):Nat:=x.spec.size+x.first.size+x.loc.size
def zbF (x:Ep):Nat:=x.name.size+x.loc.size+x.spec.size
def zcb (x:Sm):Nat:=x.name.size
def zcw (x:Ex):Nat:=x.name.size+x.field.size
def zcQ (m:Md):Nat:=(m.rq.length+zQ zca m.rq)+(m.im.length+zQ zbE m.im)+(m.ep.length+zQ zbF m.ep)+(m.st.length+zQ zcb m.st)+(m.ex.length+zQ zcw m.ex)
end Go.Proofs.YticdggnnpjachaaGreat
