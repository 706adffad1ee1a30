/-
 What is known of a []byte that came in. No program is spoken of.
-/
import Derived.Test.YthfeoomfiafldaaGreatCdDrawMath
import Derived.OpenShut
namespace Go.Proofs.YthfeoomfiafldaaGreat
open Go.RowKit Go.PlainAid
def zhv (S:Src) (w:World):Prop:=S.len≤9223372036854775807∧(∀j,0≤S.Z j∧S.Z j≤255)∧CodeW S w∧S.lim=w.heap.size
theorem zv5 (w:World):zhv ⟨none,0,0,fun _=>0,w.heap.size⟩ w:=⟨by simp,fun _=>by simp,fun j o=>absurd o (Nat.not_lt_zero j),rfl⟩
theorem zv6 {w:World} {b i:Nat} {v:Value} (h:w.cell? ⟨b,i,none⟩=some v):b<w.heap.size:=by
 rcases Nat.lt_or_ge b w.heap.size with k|k
 ·exact k
 ·have e:w.heap[b]? =none:=Array.getElem?_eq_none k
  simp[World.cell?,e] at h
theorem zv7 {w:World} {x:Addr} {J E:Nat} {z:List Int} (V:J≤E) (O:E≤maxLen) (U:z.length=E) (o: ∀i,i<z.length→w.cell? (x.add i)=some (.int .u8 (z.getD i 0))) (L: ∀n∈z,(Lit.int .u8 n).wf=true):
  zhv ⟨some x,J,E,fun j=>z.getD j 0,w.heap.size⟩ w:=by
 refine⟨?_,fun j=>?_,fun j Q=>?_,rfl⟩
 ·unfold maxLen at O
  simp only
  omega
 ·simp only
  by_cases h:j<z.length
  ·have e:z.getD j 0=z[j]:=by simp[List.getD,List.getElem?_eq_getElem h]
   rw[e]
   exact bounds_u8 (L _ (List.getElem_mem h))
  ·have e:z.getD j 0=0:=by simp[List.getD,List.getElem?_eq_none (Nat.le_of_not_lt h)]
   rw[e]
   omega
 ·simp only at Q ⊢
  have h:=o j (by omega)
  obtain⟨b,D,K⟩:=x
  have M:=o 0 (by omega)
  have I:K=none:=by simpa [Addr.add] using World.cell?_spot M
  subst I
  have H:(⟨b,D,none⟩:Addr).add j=⟨b,D+j,none⟩:=by unfold Addr.add;split<;>simp_all
  have N:w.cell? ⟨b,D+j,none⟩=some (.int .u8 (z.getD j 0)):=by rw[←H];exact h
  exact⟨b,D,rfl,zv6 N,N⟩
end Go.Proofs.YthfeoomfiafldaaGreat