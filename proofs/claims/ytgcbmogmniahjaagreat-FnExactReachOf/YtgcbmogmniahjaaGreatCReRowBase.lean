/-
 Rows that came in,of elements of any make. No program is spoken of.
-/
import Derived.Test.YtgcbmogmniahjaaGreatCReAidToTreeMath
import Derived.Deep.Slices
import Derived.OpenShut
import Derived.Below
namespace Go.Proofs.YtgcbmogmniahjaaGreat
open Go.RowKit Go.PlainAid Go.Deep
def RowAt {α:Type} (w:World) (a:Option Addr) (f:α→List Value) (m:Nat) (l:List α):Prop:=
 l=[]∨∃b off,a=some ⟨b,off,none⟩∧b<w.heap.size∧∀j x,l[j]? =some x→∀i v,(f x)[i]? =some v→w.cell? ⟨b,off+j*m+i,none⟩=some v
theorem RowAt.later {α:Type} {w A:World} {a:Option Addr} {f:α→List Value} {m:Nat} {l:List α} (h:RowAt w a f m l) (D:Below w.heap.size w A):RowAt A a f m l:=by
 rcases h with h|⟨b,z,E,q,I⟩
 ·exact .inl h
 ·exact .inr ⟨b,z,E,Nat.lt_of_lt_of_le q D.size,fun j x J i v H=>by rw[D.cell q];exact I j x J i v H⟩
theorem RowAt.get {α:Type} {w:World} {a:Option Addr} {f:α→List Value} {m:Nat} {l:List α} (h:RowAt w a f m l) {j:Nat} {x:α} (z:l[j]? =some x): ∃b q,a=some ⟨b,q,none⟩∧∀i v,(f x)[i]? =some v→w.cell? ⟨b,q+j*m+i,none⟩=some v:=by
 rcases h with h|⟨b,q,D,A,E⟩
 ·rw[h] at z
  cases z
 ·exact⟨b,q,D,E j x z⟩
theorem zbp {α:Type} {f:α→List Value} {m:Nat} (w: ∀x,(f x).length=m) (l:List α): ∀(k:Nat) (x:α) (i:Nat) (v:Value),l[k]? =some x→(f x)[i]? =some v→(l.flatMap f)[k*m+i]? =some v:=by
 induction l with
 |nil=>intro k x i v h;cases h
 |cons y l z=>
  intro k x i v h q
  rw[List.flatMap_cons]
  cases k with
  |zero=>
   cases h
   rw[Nat.zero_mul,Nat.zero_add,List.getElem?_append_left (by rw[List.getElem?_eq_some_iff] at q;exact q.1)]
   exact q
  |succ k=>
   rw[List.getElem?_append_right (by rw[w,Nat.succ_mul];omega),w,show (k+1)*m+i-m=k*m+i by rw[Nat.succ_mul];omega]
   exact z k x i v h q
def zcw (left:Int) (c:Nat) (e:Ending):Prop:=∃z:Int,e= .returned (.int .i64 z)∧ -1≤z∧z≤left∧(0≤z→z+(c:Int)=left)
theorem zqf {w:World} {y:Addr} {v:Value} (h:w.cell? (y.add 0)=some v):y=⟨y.block,y.off,none⟩∧y.block<w.heap.size:=by
 have A:y.add 0=y:=by unfold Addr.add;simp
 rw[A] at h
 obtain⟨b,D,q⟩:=y
 have E:q=none:=by simpa using World.cell?_spot h
 subst E
 refine⟨rfl,?_⟩
 show b<_
 rcases Nat.lt_or_ge b w.heap.size with z|z
 ·exact z
 ·have H:w.heap[b]? =none:=Array.getElem?_eq_none z
  simp[World.cell?,H] at h
theorem zqg {y:Addr} (h:y=⟨y.block,y.off,none⟩) (k:Nat):y.add k=⟨y.block,y.off+k,none⟩:=by
 obtain⟨b,w,q⟩:=y
 simp only[Addr.mk.injEq,true_and] at h
 subst h
 unfold Addr.add
 split
 ·rename_i z
  rw[z,Nat.add_zero]
 ·rfl
theorem zdY {H:Type} {enc:TypeId×Value→H} {P:Program} {w:World} {base U:Nat} {E:Nat→Bool} {I:Bool} {α:Type} (x0:α) {f:α→List Value} {m:Nat} (aa:0<m) (hf: ∀x,(f x).length=m) {Q:α→Prop} {t e:TypeId} {v:Value} {z:DataW H×List MemPlace}
  (ht:P.underlying t=some (.slice e)) (ce:P.cellsOf e=m) (hd: ∀n cs y,DataW.trod enc P w base E I n e cs=some y→cs.length=m→∃x,cs=f x∧Q x)
  (h:DataW.trod enc P w base E I U t [v]=some z): ∃(a:Option Addr) (K:Nat) (l:List α),v= .slice a l.length K∧l.length≤maxLen∧RowAt w a f m l∧∀x∈l,Q x:=by
 haveI:Inhabited α:=⟨x0⟩
 rcases open_slice ht h with ⟨M,_⟩|⟨a,A,K,mm,n,D,Pl,M,hb,hl,hm,Z,_,O⟩
 ·simp only[List.cons.injEq,and_true] at M
  exact⟨none,0,[],M,Nat.zero_le _,.inl rfl,fun x O=>by cases O⟩
 ·simp only[List.cons.injEq,and_true] at M
  have ac:A≤mm:=by rw[Z];split<;>omega
  have N: ∀i,i<A→∃x:α,Q x∧∀j v,(f x)[j]? =some v→w.cell? (a.add (i*m+j))=some v:=by
   intro i hi
   obtain⟨ab,h1,h2⟩:=O i (by omega)
   rw[ce] at h1
   obtain⟨_,q,L⟩:=World.cells?_some h1
   obtain⟨x,rfl,hq⟩:=hd _ _ _ h2 q
   refine⟨x,hq,fun j v Y=>?_⟩
   have X:j<m:=by have:=(List.getElem?_eq_some_iff.1 Y).1;rw[hf] at this;exact this
   have:=L j (by omega)
   rw[add_add] at this
   rw[this]
   exact Y
  obtain⟨g,hg⟩:=choose_lt N
  have q:((List.range A).map g).length=A:=by simp
  refine⟨some a,K,(List.range A).map g,by rw[q];exact M,by rw[q];omega,?_,?_⟩
  ·by_cases hz:A=0
   ·exact .inl (by rw[hz];rfl)
   ·have J: ∃v0,w.cell? (a.add 0)=some v0:=by
     have:=(hg 0 (by omega)).2 0 ((f (g 0))[0]'(by rw[hf];exact aa)) (List.getElem?_eq_getElem _)
     rw[Nat.zero_mul] at this
     exact⟨_,this⟩
    obtain⟨v0,J⟩:=J
    have ha:=zqf J
    refine .inr ⟨a.block,a.off,by rw[←ha.1],ha.2,fun j x X i v Y=>?_⟩
    have V:j<A:=by have:=(List.getElem?_eq_some_iff.1 X).1;rw[q] at this;exact this
    rw[List.getElem?_map,List.getElem?_range V] at X
    cases X
    have hc:=(hg j V).2 i v Y
    rw[zqg ha.1] at hc
    rw[Nat.add_assoc]
    exact hc
  ·intro x O
   obtain⟨i,hi,rfl⟩:=List.mem_map.1 O
   exact (hg i (List.mem_range.1 hi)).1
end Go.Proofs.YtgcbmogmniahjaaGreat