/-
  The model's == of two files. No program is spoken of but by a type's number.
-/
import Derived.Test.YtdbpknmoacjodaaCfDeleteFToImplChanged
import Derived.Laws.StructEq
namespace Go.Proofs.Ytdbpknmoacjodaa
open Go.RowKit

theorem eqlFl (p t q u : ByteArray) (w : World) : Sem.run Try.prog (binOp .eql 52 (.agg #[.string p, .string t]) (.agg #[.string q, .string u])) w = .ok (.bool (eqF p t q u)) w := by
  have uS := Try.underlying9
  have aS := Try.isAgg9
  have zS := Try.sizeOf9
  have hS : Try.prog.underlying 52 = some (.struct (Try.prog.fieldsOf 52)) := by kernel_rfl
  have hp : Try.prog.stoodInHeld 52 = false := by kernel_rfl
  rw [run_eql_struct, show (10000 : Nat) = 9999 + 1 from rfl, run_equalIn_agg w 9999 52 _ _ hS hp]
  simp only [Program.fieldsOf, Try.underlying52]
  go_simp
  by_cases h0 : p.toList = q.toList <;> by_cases h1 : t.toList = u.toList <;> simp [eqF, h0, h1]
theorem grdEq (op : BinOp) (a b : Operand) (p t q u : ByteArray) (w : World) : Sem.run Try.prog (eqGuard op 52 a b (.agg #[.string p, .string t]) (.agg #[.string q, .string u])) w = .ok () w := run_eqGuard_agg w op 52 a b _ _ (by kernel_rfl)
end Go.Proofs.Ytdbpknmoacjodaa
namespace Go.Proofs.Ytdbpknmoacjodaa
open Go.RowKit Go.PlainAid Go.Sort

theorem changed_implC (g1 l1 c1 : Nat) (P1 T1 : Nat → ByteArray) (g2 l2 c2 : Nat) (P2 T2 : Nat → ByteArray) (w : World) (hf1 : FilesAt w (some ⟨g1, 0, none⟩) g1 0 l1 P1 T1) (hf2 : FilesAt w (some ⟨g2, 0, none⟩) g2 0 l2 P2 T2) (hl1 : l1 ≤ 1048576) (hl2 : l2 ≤ 1048576) (hp1 : ∀ j, j < l1 → (P1 j).size ≤ 1048576) (ht1 : ∀ j, j < l1 → (T1 j).size ≤ 1048576) (hp2 : ∀ j, j < l2 → (P2 j).size ≤ 1048576) (ht2 : ∀ j, j < l2 → (T2 j).size ≤ 1048576) :
    Calls Try.prog 38 #[.slice (some ⟨g1, 0, none⟩) l1 c1, .slice (some ⟨g2, 0, none⟩) l2 c2] w fun e w' => ∃ a n c, e = .returned (.slice a n c) ∧ OutS w' w.heap.size a n c (changedS l1 P1 T1 l2 P2 T2) ∧ Below w.heap.size w w' :=
  changed_with eqlFl grdEq g1 l1 c1 P1 T1 g2 l2 c2 P2 T2 w hf1 hf2 hl1 hl2 hp1 ht1 hp2 ht2
theorem changed_impl (g1 l1 : Nat) (P1 T1 : Nat → ByteArray) (g2 l2 : Nat) (P2 T2 : Nat → ByteArray) (w : World) (hf1 : FilesAt w (some ⟨g1, 0, none⟩) g1 0 l1 P1 T1) (hf2 : FilesAt w (some ⟨g2, 0, none⟩) g2 0 l2 P2 T2) (hl1 : l1 ≤ 1048576) (hl2 : l2 ≤ 1048576) (hp1 : ∀ j, j < l1 → (P1 j).size ≤ 1048576) (ht1 : ∀ j, j < l1 → (T1 j).size ≤ 1048576) (hp2 : ∀ j, j < l2 → (P2 j).size ≤ 1048576) (ht2 : ∀ j, j < l2 → (T2 j).size ≤ 1048576) :
    Calls Try.prog 38 #[.slice (some ⟨g1, 0, none⟩) l1 l1, .slice (some ⟨g2, 0, none⟩) l2 l2] w fun e w' => ∃ a n c, e = .returned (.slice a n c) ∧ OutS w' w.heap.size a n c (changedS l1 P1 T1 l2 P2 T2) ∧ Below w.heap.size w w' :=
  changed_implC g1 l1 l1 P1 T1 g2 l2 l2 P2 T2 w hf1 hf2 hl1 hl2 hp1 ht1 hp2 ht2
end Go.Proofs.Ytdbpknmoacjodaa
namespace Go.Proofs.Ytdbpknmoacjodaa
open Go.RowKit Go.PlainAid

def SrcIn (S : Src) (w : World) : Prop := S.len ≤ 9223372036854775807 ∧ (∀ j, 0 ≤ S.Z j ∧ S.Z j ≤ 255) ∧ CodeW S w ∧ S.lim = w.heap.size ∧ S.len ≤ S.cap
theorem src_nil (w : World) : SrcIn ⟨none, 0, 0, fun _ => 0, w.heap.size⟩ w := ⟨by simp, fun _ => by simp, fun j hj => absurd hj (Nat.not_lt_zero j), rfl, Nat.le_refl _⟩
theorem block_lt {w : World} {b i : Nat} {v : Value} (h : w.cell? ⟨b, i, none⟩ = some v) : b < w.heap.size := by
  rcases Nat.lt_or_ge b w.heap.size with k | k
  · exact k
  · have e : w.heap[b]? = none := Array.getElem?_eq_none k
    simp [World.cell?, e] at h
theorem src_row {w : World} {x : Addr} {len cap : Nat} {zs : List Int} (hl : len ≤ cap) (hm : cap ≤ maxLen) (hz : zs.length = cap) (hcell : ∀ i, i < zs.length → w.cell? (x.add i) = some (.int .u8 (zs.getD i 0))) (hwz : ∀ n ∈ zs, (Lit.int .u8 n).wf = true) :
    SrcIn ⟨some x, len, cap, fun j => zs.getD j 0, w.heap.size⟩ w := by
  refine ⟨?_, fun j => ?_, fun j hj => ?_, rfl, hl⟩
  · unfold maxLen at hm
    simp only
    omega
  · simp only
    by_cases h : j < zs.length
    · have e : zs.getD j 0 = zs[j] := by simp [List.getD, List.getElem?_eq_getElem h]
      rw [e]
      exact bounds_u8 (hwz _ (List.getElem_mem h))
    · have e : zs.getD j 0 = 0 := by simp [List.getD, List.getElem?_eq_none (Nat.le_of_not_lt h)]
      rw [e]
      omega
  · simp only at hj ⊢
    have h := hcell j (by omega)
    obtain ⟨b, off, spot⟩ := x
    have hz0 := hcell 0 (by omega)
    have hspot : spot = none := by simpa [Addr.add] using World.cell?_spot hz0
    subst hspot
    have hplain : (⟨b, off, none⟩ : Addr).add j = ⟨b, off + j, none⟩ := by unfold Addr.add; split <;> simp_all
    have h' : w.cell? ⟨b, off + j, none⟩ = some (.int .u8 (zs.getD j 0)) := by rw [← hplain]; exact h
    exact ⟨b, off, rfl, block_lt h', h'⟩
end Go.Proofs.Ytdbpknmoacjodaa
