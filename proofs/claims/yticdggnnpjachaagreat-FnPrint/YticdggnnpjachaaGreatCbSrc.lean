/-
 What is known of a []byte that came in. No program is spoken of.
-/
import Derived.Test.YticdggnnpjachaaGreatCbDrawMath
import Derived.OpenShut
namespace Go.Proofs.YticdggnnpjachaaGreat
open Go.RowKit Go.PlainAid
def zfU (S:Src) (w:World):Prop:=S.len≤9223372036854775807∧(∀j,0≤S.Z j∧S.Z j≤255)∧zct S w∧S.lim=w.heap.size
theorem zrA (w:World):zfU ⟨none,0,0,fun _=>0,w.heap.size⟩ w:=⟨by simp,fun _=>by simp,fun j n=>absurd n (Nat.not_lt_zero j),rfl⟩
theorem zrB {w:World} {b i:Nat} {v:Value} (h:w.cell? ⟨b,i,none⟩=some v):b<w.heap.size:=by
 rcases Nat.lt_or_ge b w.heap.size with k|k
 ·exact k
 ·have e:w.heap[b]? =none:=Array.getElem?_eq_none k
  simp[World.cell?,e] at h
theorem zrC {w:World} {x:Addr} {I z:Nat} {q:List Int} (O:I≤z) (N:z≤maxLen) (Q:q.length=z) (o: ∀i,i<q.length→w.cell? (x.add i)=some (.int .u8 (q.getD i 0))) (K: ∀n∈q,(Lit.int .u8 n).wf=true):
  zfU ⟨some x,I,z,fun j=>q.getD j 0,w.heap.size⟩ w:=by
 refine⟨?_,fun j=>?_,fun j M=>?_,rfl⟩
 ·unfold maxLen at N
  simp only
  omega
 ·simp only
  by_cases h:j<q.length
  ·have e:q.getD j 0=q[j]:=by simp[List.getD,List.getElem?_eq_getElem h]
   rw[e]
   exact bounds_u8 (K _ (List.getElem_mem h))
  ·have e:q.getD j 0=0:=by simp[List.getD,List.getElem?_eq_none (Nat.le_of_not_lt h)]
   rw[e]
   omega
 ·simp only at M ⊢
  have h:=o j (by omega)
  obtain⟨b,D,H⟩:=x
  have J:=o 0 (by omega)
  have E:H=none:=by simpa [Addr.add] using World.cell?_spot J
  subst E
  have A:(⟨b,D,none⟩:Addr).add j=⟨b,D+j,none⟩:=by unfold Addr.add;split<;>simp_all
  have L:w.cell? ⟨b,D+j,none⟩=some (.int .u8 (q.getD j 0)):=by rw[←A];exact h
  exact⟨b,D,rfl,zrB L,L⟩
end Go.Proofs.YticdggnnpjachaaGreat