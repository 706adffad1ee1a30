/-
  'append' of one file onto a row of the call's own, as one step of a region that draws its order. No program is spoken of.
-/
import Derived.Test.YtjofmbgacmdpeaaRowFile
namespace Go.Proofs.Ytjofmbgacmdpeaa
open Go.RowKit Go.PlainAid

theorem step_file {P : Program} {ops : Array Oper} {o : Oper} {a : Act} {W : World} {K : Act → World → Prop} {Q : Exit → Act → World → Prop} {E : Prop} (hgd : o.guard = none) (s x : Operand) (t : TypeId)
    (ho : o.op = .call { callee := .builtin .append, args := #[s, x], argTypes := #[t, t] })
    (base : Nat) (e : TypeId) (i : TypeInfo) (z : Value) (ht : P.underlying t = some (.slice e)) (hi : P.info? e = some i) (hz : i.zero = some z) (hsize : i.size = 2) (hby : i.bytes = 32) (hzs : z.cells.size = 2)
    (g n cap : Nat) (fs : List Fl) (hs : a.eval s = .slice (some ⟨g, 0, none⟩) n cap) (hown : OwnFl W base e g n cap fs)
    (gx : Nat) (b : Fl) (hx : a.eval x = .slice (some ⟨gx, 0, none⟩) 1 1) (hg : W.heap[gx]? = some (.cells #[.string b.1, .string b.2] e (0, 0))) (hn : n + 1 ≤ 1000000)
    (h : ∀ g' cap' w', OwnFl w' base e g' (n + 1) cap' (fs ++ [b]) → W.grownBy w' (some g) → (g' = g ∨ W.heap.size ≤ g') → K (a.put o.dst (.slice (some ⟨g', 0, none⟩) (n + 1) cap')) w') :
    if Region.wanted o (yielded ops a.tmps) = true then Oper.wp P o a W K Q else E := by
  have hw : Region.wanted o (yielded ops a.tmps) = true := by simp [Region.wanted, hgd]
  rw [if_pos hw]
  obtain ⟨hb0, hb1⟩ := ownFl_blk hown
  obtain ⟨v', w', hr, h2, h3, _, h5⟩ := run_append_own_at (P := P) W base t o.type e i z 2 32 ht hi hz hsize hby hzs (by decide) _ n _ hown.1 ⟨gx, 0, none⟩ 1 1 (flL b) rfl (by
    intro j u hj
    have e1 : (⟨gx, 0, none⟩ : Addr).add j = ⟨gx, j, none⟩ := by simp [Addr.add]; exact fun h => h.symm
    rw [e1]
    match j, hj with
    | 0, hj => cases hj; simp [World.cell?, hg]
    | 1, hj => cases hj; simp [World.cell?, hg]) (by
    intro u hu
    simp [flL] at hu
    rcases hu with rfl | rfl <;> rfl) (by unfold maxLen; omega) (by omega) (by omega)
  unfold Oper.wp execOp
  simp only [ho, resolve, invoke, builtin, Sem.run_bind, Sem.run_pure, Result.andThen_ok, List.map_toArray, List.map_cons, List.map_nil, hs, hx, hr]
  rcases h2.2 with ⟨hv, hn0⟩ | ⟨g', cap', cur, rfl, hrest⟩
  · omega
  · refine h g' cap' w' ⟨by rw [List.flatMap_append]; simpa using h2, by rw [List.length_append]; have := hown.2; simp; omega⟩ h3 ?_
    have k4 : some g' = some g ∨ some g' = some W.heap.size := h5
    rcases k4 with k | k
    · exact .inl (Option.some.inj k)
    · exact .inr (Nat.le_of_eq (Option.some.inj k).symm)
end Go.Proofs.Ytjofmbgacmdpeaa
