/-
 Rows that came in,of elements of any make. No program is spoken of.
-/
import Derived.Test.YtjdddblpfbmpaaaGreatClAidToTreeMath
import Derived.Deep.Slices
import Derived.OpenShut
import Derived.Below
namespace Go.Proofs.YtjdddblpfbmpaaaGreat
open Go.RowKit Go.PlainAid Go.Deep
def RowAt {α:Type} (w:World) (a:Option Addr) (f:α→List Value) (m:Nat) (l:List α):Prop:=
 l=[]∨∃b off,a=some ⟨b,off,none⟩∧b<w.heap.size∧∀j x,l[j]? =some x→∀i v,(f x)[i]? =some v→w.cell? ⟨b,off+j*m+i,none⟩=some v
theorem RowAt.later {α:Type} {w w':World} {a:Option Addr} {f:α→List Value} {m:Nat} {l:List α} (h:RowAt w a f m l) (H:Below w.heap.size w w'):RowAt w' a f m l:=by
 rcases h with h|⟨b,A,I,z,L⟩
 ·exact .inl h
 ·exact .inr ⟨b,A,I,Nat.lt_of_lt_of_le z H.size,fun j x M i v J=>by rw[H.cell z];exact L j x M i v J⟩
theorem RowAt.get {α:Type} {w:World} {a:Option Addr} {f:α→List Value} {m:Nat} {l:List α} (h:RowAt w a f m l) {j:Nat} {x:α} (A:l[j]? =some x): ∃b z,a=some ⟨b,z,none⟩∧∀i v,(f x)[i]? =some v→w.cell? ⟨b,z+j*m+i,none⟩=some v:=by
 rcases h with h|⟨b,z,I,H,J⟩
 ·rw[h] at A
  cases A
 ·exact⟨b,z,I,J j x A⟩
theorem zbP {α:Type} {f:α→List Value} {m:Nat} (w: ∀x,(f x).length=m) (l:List α): ∀(k:Nat) (x:α) (i:Nat) (v:Value),l[k]? =some x→(f x)[i]? =some v→(l.flatMap f)[k*m+i]? =some v:=by
 induction l with
 |nil=>intro k x i v h;cases h
 |cons y l z=>
  intro k x i v h j
  rw[List.flatMap_cons]
  cases k with
  |zero=>
   cases h
   rw[Nat.zero_mul,Nat.zero_add,List.getElem?_append_left (by rw[List.getElem?_eq_some_iff] at j;exact j.1)]
   exact j
  |succ k=>
   rw[List.getElem?_append_right (by rw[w,Nat.succ_mul];omega),w,show (k+1)*m+i-m=k*m+i by rw[Nat.succ_mul];omega]
   exact z k x i v h j
def zdo (left:Int) (c:Nat) (e:Ending):Prop:=∃z:Int,e= .returned (.int .i64 z)∧ -1≤z∧z≤left∧(0≤z→z+(c:Int)=left)
theorem zoL {w:World} {y:Addr} {v:Value} (h:w.cell? (y.add 0)=some v):y=⟨y.block,y.off,none⟩∧y.block<w.heap.size:=by
 have A:y.add 0=y:=by unfold Addr.add;simp
 rw[A] at h
 obtain⟨b,H,j⟩:=y
 have I:j=none:=by simpa using World.cell?_spot h
 subst I
 refine⟨rfl,?_⟩
 show b<_
 rcases Nat.lt_or_ge b w.heap.size with z|z
 ·exact z
 ·have J:w.heap[b]? =none:=Array.getElem?_eq_none z
  simp[World.cell?,J] at h
theorem zoM {y:Addr} (h:y=⟨y.block,y.off,none⟩) (k:Nat):y.add k=⟨y.block,y.off+k,none⟩:=by
 obtain⟨b,w,j⟩:=y
 simp only[Addr.mk.injEq,true_and] at h
 subst h
 unfold Addr.add
 split
 ·rename_i z
  rw[z,Nat.add_zero]
 ·rfl
theorem zft {H:Type} {enc:TypeId×Value→H} {P:Program} {w:World} {L Z:Nat} {J:Nat→Bool} {M:Bool} {α:Type} (x0:α) {f:α→List Value} {m:Nat} (ac:0<m) (hf: ∀x,(f x).length=m) {Q:α→Prop} {t e:TypeId} {v:Value} {z:DataW H×List MemPlace}
  (ht:P.underlying t=some (.slice e)) (ce:P.cellsOf e=m) (hd: ∀n cs y,DataW.trod enc P w L J M n e cs=some y→cs.length=m→∃x,cs=f x∧Q x)
  (h:DataW.trod enc P w L J M Z t [v]=some z): ∃(a:Option Addr) (O:Nat) (l:List α),v= .slice a l.length O∧l.length≤maxLen∧RowAt w a f m l∧∀x∈l,Q x:=by
 haveI:Inhabited α:=⟨x0⟩
 rcases open_slice ht h with ⟨V,_⟩|⟨a,I,O,mm,n,D,Pl,V,hb,hl,hm,ab,_,Y⟩
 ·simp only[List.cons.injEq,and_true] at V
  exact⟨none,0,[],V,Nat.zero_le _,.inl rfl,fun x Y=>by cases Y⟩
 ·simp only[List.cons.injEq,and_true] at V
  have ae:I≤mm:=by rw[ab];split<;>omega
  have X: ∀i,i<I→∃x:α,Q x∧∀j v,(f x)[j]? =some v→w.cell? (a.add (i*m+j))=some v:=by
   intro i hi
   obtain⟨ad,h1,h2⟩:=Y i (by omega)
   rw[ce] at h1
   obtain⟨_,A,U⟩:=World.cells?_some h1
   obtain⟨x,rfl,hq⟩:=hd _ _ _ h2 A
   refine⟨x,hq,fun j v hv=>?_⟩
   have hj:j<m:=by have:=(List.getElem?_eq_some_iff.1 hv).1;rw[hf] at this;exact this
   have:=U j (by omega)
   rw[add_add] at this
   rw[this]
   exact hv
  obtain⟨g,hg⟩:=choose_lt X
  have A:((List.range I).map g).length=I:=by simp
  refine⟨some a,O,(List.range I).map g,by rw[A];exact V,by rw[A];omega,?_,?_⟩
  ·by_cases hz:I=0
   ·exact .inl (by rw[hz];rfl)
   ·have N: ∃v0,w.cell? (a.add 0)=some v0:=by
     have:=(hg 0 (by omega)).2 0 ((f (g 0))[0]'(by rw[hf];exact ac)) (List.getElem?_eq_getElem _)
     rw[Nat.zero_mul] at this
     exact⟨_,this⟩
    obtain⟨v0,N⟩:=N
    have ha:=zoL N
    refine .inr ⟨a.block,a.off,by rw[←ha.1],ha.2,fun j x hj i v hv=>?_⟩
    have aa:j<I:=by have:=(List.getElem?_eq_some_iff.1 hj).1;rw[A] at this;exact this
    rw[List.getElem?_map,List.getElem?_range aa] at hj
    cases hj
    have hc:=(hg j aa).2 i v hv
    rw[zoM ha.1] at hc
    rw[Nat.add_assoc]
    exact hc
  ·intro x Y
   obtain⟨i,hi,rfl⟩:=List.mem_map.1 Y
   exact (hg i (List.mem_range.1 hi)).1
end Go.Proofs.YtjdddblpfbmpaaaGreat