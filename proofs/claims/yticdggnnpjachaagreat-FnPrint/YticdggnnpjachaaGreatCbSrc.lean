/-
 What is known of a []byte that came in. No program is spoken of.
-/
import Derived.Test.YticdggnnpjachaaGreatCbDrawMath
import Derived.OpenShut
namespace Go.Proofs.YticdggnnpjachaaGreat
open Go.RowKit Go.PlainAid
def zfU (S:Src) (w:World):Prop:=S.len≤9223372036854775807∧(∀j,0≤S.Z j∧S.Z j≤255)∧zct S w∧S.lim=w.heap.size
theorem zrA (w:World):zfU ⟨none,0,0,fun _=>0,w.heap.size⟩ w:=⟨by simp,fun _=>by simp,fun j n=>absurd n (Nat.not_lt_zero j),rfl⟩
theorem zrB {w:World} {b i:Nat} {v:Value} (h:w.cell? ⟨b,i,none⟩=some v):b<w.heap.size:=by
 rcases Nat.lt_or_ge b w.heap.size with k|k
 ·exact k
 ·have e:w.heap[b]? =none:=Array.getElem?_eq_none k
  simp[World.cell?,e] at h
theorem zrC {w:World} {x:Addr} {I A:Nat} {q:List Int} (Q:I≤A) (M:A≤maxLen) (O:q.length=A) (o: ∀i,i<q.length→w.cell? (x.add i)=some (.int .u8 (q.getD i 0))) (J: ∀n∈q,(Lit.int .u8 n).wf=true):
  zfU ⟨some x,I,A,fun j=>q.getD j 0,w.heap.size⟩ w:=by
 refine⟨?_,fun j=>?_,fun j N=>?_,rfl⟩
 ·unfold maxLen at M
  simp only
  omega
 ·simp only
  by_cases h:j<q.length
  ·have e:q.getD j 0=q[j]:=by simp[List.getD,List.getElem?_eq_getElem h]
   rw[e]
   exact bounds_u8 (J _ (List.getElem_mem h))
  ·have e:q.getD j 0=0:=by simp[List.getD,List.getElem?_eq_none (Nat.le_of_not_lt h)]
   rw[e]
   omega
 ·simp only at N ⊢
  have h:=o j (by omega)
  obtain⟨b,z,H⟩:=x
  have K:=o 0 (by omega)
  have E:H=none:=by simpa [Addr.add] using World.cell?_spot K
  subst E
  have D:(⟨b,z,none⟩:Addr).add j=⟨b,z+j,none⟩:=by unfold Addr.add;split<;>simp_all
  have L:w.cell? ⟨b,z+j,none⟩=some (.int .u8 (q.getD j 0)):=by rw[←D];exact h
  exact⟨b,z,rfl,zrB L,L⟩
end Go.Proofs.YticdggnnpjachaaGreat