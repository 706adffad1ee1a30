/-
  What is known of a []byte that came in. No program is spoken of.
-/
import Derived.Test.YtkplighmefigcaaDrawMath
import Derived.OpenShut
namespace Go.Proofs.Ytkplighmefigcaa
open Go.RowKit Go.PlainAid

def SrcIn (S : Src) (w : World) : Prop := S.len ≤ 9223372036854775807 ∧ (∀ j, 0 ≤ S.Z j ∧ S.Z j ≤ 255) ∧ CodeW S w ∧ S.lim = w.heap.size ∧ S.len ≤ S.cap
theorem src_nil (w : World) : SrcIn ⟨none, 0, 0, fun _ => 0, w.heap.size⟩ w := ⟨by simp, fun _ => by simp, fun j hj => absurd hj (Nat.not_lt_zero j), rfl, Nat.le_refl _⟩
theorem block_lt {w : World} {b i : Nat} {v : Value} (h : w.cell? ⟨b, i, none⟩ = some v) : b < w.heap.size := by
  rcases Nat.lt_or_ge b w.heap.size with k | k
  · exact k
  · have e : w.heap[b]? = none := Array.getElem?_eq_none k
    simp [World.cell?, e] at h
theorem src_row {w : World} {x : Addr} {len cap : Nat} {zs : List Int} (hl : len ≤ cap) (hm : cap ≤ maxLen) (hz : zs.length = cap) (hcell : ∀ i, i < zs.length → w.cell? (x.add i) = some (.int .u8 (zs.getD i 0))) (hwz : ∀ n ∈ zs, (Lit.int .u8 n).wf = true) :
    SrcIn ⟨some x, len, cap, fun j => zs.getD j 0, w.heap.size⟩ w := by
  refine ⟨?_, fun j => ?_, fun j hj => ?_, rfl, hl⟩
  · unfold maxLen at hm
    simp only
    omega
  · simp only
    by_cases h : j < zs.length
    · have e : zs.getD j 0 = zs[j] := by simp [List.getD, List.getElem?_eq_getElem h]
      rw [e]
      exact bounds_u8 (hwz _ (List.getElem_mem h))
    · have e : zs.getD j 0 = 0 := by simp [List.getD, List.getElem?_eq_none (Nat.le_of_not_lt h)]
      rw [e]
      omega
  · simp only at hj ⊢
    have h := hcell j (by omega)
    obtain ⟨b, off, spot⟩ := x
    have hz0 := hcell 0 (by omega)
    have hspot : spot = none := by simpa [Addr.add] using World.cell?_spot hz0
    subst hspot
    have hplain : (⟨b, off, none⟩ : Addr).add j = ⟨b, off + j, none⟩ := by unfold Addr.add; split <;> simp_all
    have h' : w.cell? ⟨b, off + j, none⟩ = some (.int .u8 (zs.getD j 0)) := by rw [← hplain]; exact h
    exact ⟨b, off, rfl, block_lt h', h'⟩
end Go.Proofs.Ytkplighmefigcaa
