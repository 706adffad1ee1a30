/-
  What impl.meantBy's iterator tells: the walk.
-/
import Derived.Test.YtemfbibeoibpeaaImplCandA
namespace Go.Proofs.Ytemfbibeoibpeaa
open Go.RowKit Go.PlainAid Go.Shelf

theorem below_of_drew {w w' : World} (h : Below w.drew.heap.size w.drew w') : Below w.heap.size w w' := ⟨h.os, h.tape, h.output, h.size, h.block⟩
theorem yield_or {e : Ending} {A B : Prop} (h : (e = .returned (.bool true) ∧ A) ∨ (e = .returned (.bool false) ∧ B)) : ∃ b, e = .returned (.bool b) ∧ ((b = true ∧ A) ∨ (b = false ∧ B)) := by
  rcases h with ⟨h1, h2⟩ | ⟨h1, h2⟩
  · exact ⟨true, h1, .inl ⟨rfl, h2⟩⟩
  · exact ⟨false, h1, .inr ⟨rfl, h2⟩⟩
theorem wide_callR {n k l : Nat} {P : Program} {f : FuncId} {args : Array Value} {w : World} {R R' : Ending → World → Prop} (h : Calls P f args w R) (hr : ∀ e w', R e w' → R' e w') : (Fence.wide.inRound l).fn f ∧ ((Fence.wide.inRound l).depth.isSome = true → 1 ≤ k) ∧ CallsIn (Fence.wide.inRound l) n P f args w R' := ⟨trivial, fun h => (by cases h), CallsIn.inRound l ((callsIn_wide.2 h).mono hr)⟩
theorem round_in {n l l' : Nat} {P : Program} {f : FuncId} {tmps : Array Value} {assign body : Code} {w : World} {R : Ending → World → Prop} (h : RoundIn Fence.wide n P l f tmps assign body w R) : RoundIn (Fence.wide.inRound l') n P l f tmps assign body w R := h
attribute [local go_sem] Oper.semAt_some
set_option maxRecDepth 100000 in
set_option maxHeartbeats 2000000 in
theorem meant_rel (f sp : ByteArray) (bs bf : Nat) (hf : f.size ≤ 1048576) (hs : sp.size ≤ 1048576) (hr : relB sp = true) : SeqC Try.prog 62 #[.pointer (some ⟨bs, 0, none⟩), .pointer (some ⟨bf, 0, none⟩)] (baseC f sp) (fun W => Boxed W bs 9 (.string sp) ∧ Boxed W bf 9 (.string f)) (fun k => k = bs ∨ k = bf) := fun n l J Jx C W hH hBC hJ hJx hC h0 hY => by
  refine callsIn_of_wp Try.func62 rfl trivial ?_ rfl
  simp only [Try.ntmps62, List.size_toArray, List.length_cons, List.length_nil, Nat.reduceAdd, Nat.reduceSub, Array.replicate_succ, Array.replicate_zero, List.push_toArray, List.append_toArray, List.nil_append, List.cons_append]
  obtain ⟨W0, hW0⟩ : ∃ W0, W.alloc (.cells #[.func (.yield l) #[] #[]] 39) = W0 := ⟨_, rfl⟩
  have by0 : Boxed W0 W.heap.size 39 (.func (.yield l) #[] #[]) := by rw [← hW0]; exact Boxed.new W _ _
  have b0 : Below W.heap.size W W0 := by rw [← hW0]; exact (Below.refl _ _).alloc (Nat.le_refl _) _
  have bs0 : Boxed W0 bs 9 (.string sp) := (b0.block bs hH.1.lt).trans hH.1
  have bf0 : Boxed W0 bf 9 (.string f) := (b0.block bf hH.2.lt).trans hH.2
  have hc1 := bs0.cell
  have hmx : Try.prog.follows .mixedOrders = true := by kernel_rfl
  gi_wp2
  refine wide_call (saysWhere_any sp _) ?_
  rintro e w1 ⟨rfl, rfl⟩
  rw [hr]
  clear hW0
  have hc2 := bf0.cell
  have hc3 := by0.cell
  have HX : Hid (baseC f sp = [resolveS f sp]) := by show baseC f sp = _; rw [baseC, hr]; rfl
  obtain ⟨x, hx⟩ : ∃ x, resolveS f sp = x := ⟨_, rfl⟩
  rw [hx] at HX
  have HR : Hid (∀ w, Calls Try.prog 64 #[.string f, .string sp] w fun e w' => e = .returned (.string x) ∧ Below w.heap.size w w') := fun w => by rw [← hx]; exact resolve_impl f sp w (by omega) hs
  clear hx
  have HN : Hid (∀ w2, Below w1.heap.size w1 w2 → Fr C W C w2 ∧ J [] C w2) := fun w2 h2 => by
    have hb := b0.trans (h2.mono b0.size)
    exact ⟨Fr.below hC hb, hJ _ _ _ _ h0 (fun k hk => hb.block k (hC k hk))⟩
  gi_wp2
  gi_region_with_o (first | (refine wide_call (HR.out _) ?_; rintro e w2 ⟨rfl, hb2'⟩; have hb2 := below_of_drew hb2'; have hc1' := (hb2.cell (p := ⟨bs, 0, none⟩) bs0.lt).trans hc1; have hc2' := (hb2.cell (p := ⟨bf, 0, none⟩) bf0.lt).trans hc2; have hc3' := (hb2.cell (p := ⟨W.heap.size, 0, none⟩) by0.lt).trans hc3; obtain ⟨fn, tm, asg, bd, hy, hR⟩ := hY (n - 1) [] x [] C w2 HX.out (HN.out w2 hb2).1 (HN.out w2 hb2).2) | (refine ⟨wide_ok, hR.mono ?_⟩; rintro e W3 ⟨C2, hf2, hj⟩; obtain ⟨bv, rfl, hj2⟩ := yield_or hj))
  all_goals gi_wp2
  all_goals refine bodyPost_ret (results_none rfl _ _ _) rfl ?_
  all_goals exact ⟨⟨_, rfl⟩, C2, (HN.out w2 hb2).1.trans hf2, hj2.elim (fun h => .inl (by rw [HX.out]; exact h.2)) (fun h => .inr ⟨[x], by rw [HX.out]; exact List.prefix_rfl, h.2⟩)⟩

end Go.Proofs.Ytemfbibeoibpeaa
