/-
 Rows that came in,of elements of any make. No program is spoken of.
-/
import Derived.Test.YtgcbmogmniahjaaGreatCAcAidToTreeMath
import Derived.Deep.Slices
import Derived.OpenShut
import Derived.Below
namespace Go.Proofs.YtgcbmogmniahjaaGreat
open Go.RowKit Go.PlainAid Go.Deep
def RowAt {α:Type} (w:World) (a:Option Addr) (f:α→List Value) (m:Nat) (l:List α):Prop:=
 l=[]∨∃b off,a=some ⟨b,off,none⟩∧b<w.heap.size∧∀j x,l[j]? =some x→∀i v,(f x)[i]? =some v→w.cell? ⟨b,off+j*m+i,none⟩=some v
theorem RowAt.later {α:Type} {w w':World} {a:Option Addr} {f:α→List Value} {m:Nat} {l:List α} (h:RowAt w a f m l) (A:Below w.heap.size w w'):RowAt w' a f m l:=by
 rcases h with h|⟨b,z,H,q,J⟩
 ·exact .inl h
 ·exact .inr ⟨b,z,H,Nat.lt_of_lt_of_le q A.size,fun j x K i v I=>by rw[A.cell q];exact J j x K i v I⟩
theorem RowAt.get {α:Type} {w:World} {a:Option Addr} {f:α→List Value} {m:Nat} {l:List α} (h:RowAt w a f m l) {j:Nat} {x:α} (z:l[j]? =some x): ∃b q,a=some ⟨b,q,none⟩∧∀i v,(f x)[i]? =some v→w.cell? ⟨b,q+j*m+i,none⟩=some v:=by
 rcases h with h|⟨b,q,H,A,I⟩
 ·rw[h] at z
  cases z
 ·exact⟨b,q,H,I j x z⟩
theorem zbm {α:Type} {f:α→List Value} {m:Nat} (w: ∀x,(f x).length=m) (l:List α): ∀(k:Nat) (x:α) (i:Nat) (v:Value),l[k]? =some x→(f x)[i]? =some v→(l.flatMap f)[k*m+i]? =some v:=by
 induction l with
 |nil=>intro k x i v h;cases h
 |cons y l z=>
  intro k x i v h q
  rw[List.flatMap_cons]
  cases k with
  |zero=>
   cases h
   rw[Nat.zero_mul,Nat.zero_add,List.getElem?_append_left (by rw[List.getElem?_eq_some_iff] at q;exact q.1)]
   exact q
  |succ k=>
   rw[List.getElem?_append_right (by rw[w,Nat.succ_mul];omega),w,show (k+1)*m+i-m=k*m+i by rw[Nat.succ_mul];omega]
   exact z k x i v h q
def zct (left:Int) (c:Nat) (e:Ending):Prop:=∃z:Int,e= .returned (.int .i64 z)∧ -1≤z∧z≤left∧(0≤z→z+(c:Int)=left)
theorem zpJ {w:World} {y:Addr} {v:Value} (h:w.cell? (y.add 0)=some v):y=⟨y.block,y.off,none⟩∧y.block<w.heap.size:=by
 have A:y.add 0=y:=by unfold Addr.add;simp
 rw[A] at h
 obtain⟨b,H,q⟩:=y
 have I:q=none:=by simpa using World.cell?_spot h
 subst I
 refine⟨rfl,?_⟩
 show b<_
 rcases Nat.lt_or_ge b w.heap.size with z|z
 ·exact z
 ·have J:w.heap[b]? =none:=Array.getElem?_eq_none z
  simp[World.cell?,J] at h
theorem zpK {y:Addr} (h:y=⟨y.block,y.off,none⟩) (k:Nat):y.add k=⟨y.block,y.off+k,none⟩:=by
 obtain⟨b,w,q⟩:=y
 simp only[Addr.mk.injEq,true_and] at h
 subst h
 unfold Addr.add
 split
 ·rename_i z
  rw[z,Nat.add_zero]
 ·rfl
theorem zdP {H:Type} {enc:TypeId×Value→H} {P:Program} {w:World} {base V:Nat} {I:Nat→Bool} {J:Bool} {α:Type} (x0:α) {f:α→List Value} {m:Nat} (ab:0<m) (hf: ∀x,(f x).length=m) {Q:α→Prop} {t e:TypeId} {v:Value} {z:DataW H×List MemPlace}
  (ht:P.underlying t=some (.slice e)) (ce:P.cellsOf e=m) (hd: ∀n cs y,DataW.trod enc P w base I J n e cs=some y→cs.length=m→∃x,cs=f x∧Q x)
  (h:DataW.trod enc P w base I J V t [v]=some z): ∃(a:Option Addr) (L:Nat) (l:List α),v= .slice a l.length L∧l.length≤maxLen∧RowAt w a f m l∧∀x∈l,Q x:=by
 haveI:Inhabited α:=⟨x0⟩
 rcases open_slice ht h with ⟨N,_⟩|⟨a,A,L,mm,n,D,Pl,N,hb,hl,hm,aa,_,U⟩
 ·simp only[List.cons.injEq,and_true] at N
  exact⟨none,0,[],N,Nat.zero_le _,.inl rfl,fun x U=>by cases U⟩
 ·simp only[List.cons.injEq,and_true] at N
  have ad:A≤mm:=by rw[aa];split<;>omega
  have O: ∀i,i<A→∃x:α,Q x∧∀j v,(f x)[j]? =some v→w.cell? (a.add (i*m+j))=some v:=by
   intro i hi
   obtain⟨ac,h1,h2⟩:=U i (by omega)
   rw[ce] at h1
   obtain⟨_,q,M⟩:=World.cells?_some h1
   obtain⟨x,rfl,hq⟩:=hd _ _ _ h2 q
   refine⟨x,hq,fun j v Z=>?_⟩
   have Y:j<m:=by have:=(List.getElem?_eq_some_iff.1 Z).1;rw[hf] at this;exact this
   have:=M j (by omega)
   rw[add_add] at this
   rw[this]
   exact Z
  obtain⟨g,hg⟩:=choose_lt O
  have q:((List.range A).map g).length=A:=by simp
  refine⟨some a,L,(List.range A).map g,by rw[q];exact N,by rw[q];omega,?_,?_⟩
  ·by_cases hz:A=0
   ·exact .inl (by rw[hz];rfl)
   ·have K: ∃v0,w.cell? (a.add 0)=some v0:=by
     have:=(hg 0 (by omega)).2 0 ((f (g 0))[0]'(by rw[hf];exact ab)) (List.getElem?_eq_getElem _)
     rw[Nat.zero_mul] at this
     exact⟨_,this⟩
    obtain⟨v0,K⟩:=K
    have ha:=zpJ K
    refine .inr ⟨a.block,a.off,by rw[←ha.1],ha.2,fun j x Y i v Z=>?_⟩
    have X:j<A:=by have:=(List.getElem?_eq_some_iff.1 Y).1;rw[q] at this;exact this
    rw[List.getElem?_map,List.getElem?_range X] at Y
    cases Y
    have hc:=(hg j X).2 i v Z
    rw[zpK ha.1] at hc
    rw[Nat.add_assoc]
    exact hc
  ·intro x U
   obtain⟨i,hi,rfl⟩:=List.mem_map.1 U
   exact (hg i (List.mem_range.1 hi)).1
end Go.Proofs.YtgcbmogmniahjaaGreat