/-
  What impl.meantBy's iterator tells where a request does not say where: the walk.
-/
import Derived.Test.YtemfbibeoibpeaaImplMeantA
namespace Go.Proofs.Ytemfbibeoibpeaa
open Go.RowKit Go.PlainAid Go.Shelf

attribute [local go_sem] Oper.semAt_some
set_option maxRecDepth 100000 in
set_option maxHeartbeats 2000000 in
theorem meant_lib (f sp : ByteArray) (bs bf : Nat) (hf : f.size ≤ 1048576) (hs : sp.size ≤ 1048576) (hr : relB sp = false) : SeqC Try.prog 62 #[.pointer (some ⟨bs, 0, none⟩), .pointer (some ⟨bf, 0, none⟩)] (baseC f sp) (fun W => Boxed W bs 9 (.string sp) ∧ Boxed W bf 9 (.string f)) (fun k => k = bs ∨ k = bf) := fun n l J Jx C W hH hBC hJ hJx hC h0 hY => by
  refine callsIn_of_wp_marks Try.func62 rfl trivial ?_ rfl
  simp only [Try.ntmps62, List.size_toArray, List.length_cons, List.length_nil, Nat.reduceAdd, Nat.reduceSub, Array.replicate_succ, Array.replicate_zero, List.push_toArray, List.append_toArray, List.nil_append, List.cons_append]
  obtain ⟨W0, hW0⟩ : ∃ W0, W.alloc (.cells #[.func (.yield l) #[] #[]] 39) = W0 := ⟨_, rfl⟩
  have by0 : Boxed W0 W.heap.size 39 (.func (.yield l) #[] #[]) := by rw [← hW0]; exact Boxed.new W _ _
  have b0 : Below W.heap.size W W0 := by rw [← hW0]; exact (Below.refl _ _).alloc (Nat.le_refl _) _
  have bs0 : Boxed W0 bs 9 (.string sp) := (b0.block bs hH.1.lt).trans hH.1
  have bf0 : Boxed W0 bf 9 (.string f) := (b0.block bf hH.2.lt).trans hH.2
  have hbsC : ¬ C bs := hBC bs (.inl rfl)
  have hbs : bs < W.heap.size := hH.1.lt
  have hc1 := bs0.cell
  have hmx : Try.prog.follows .mixedOrders = true := by kernel_rfl
  gi_wp2
  refine wide_call (saysWhere_any sp _) ?_
  rintro e w1 ⟨rfl, rfl⟩
  rw [hr]
  clear hW0
  have hc2 := bf0.cell
  gi_wp2
  refine wide_call (foldersAbove_any f _) ?_
  rintro e w' ⟨rfl, rfl⟩
  obtain ⟨w2, hw2⟩ : ∃ w2, w1.alloc (.cells #[.string f] 9) = w2 := ⟨_, rfl⟩
  have bb2 : Boxed w2 w1.heap.size 9 (.string f) := by rw [← hw2]; exact Boxed.new w1 _ _
  have b2 : Below w1.heap.size w1 w2 := by rw [← hw2]; exact (Below.refl _ _).alloc (Nat.le_refl _) _
  have bs2 : Boxed w2 bs 9 (.string sp) := (b2.block bs bs0.lt).trans bs0
  have by2 : Boxed w2 W.heap.size 39 (.func (.yield l) #[] #[]) := (b2.block W.heap.size by0.lt).trans by0
  have hx : baseC f sp = (upL f).map (libC sp) := by rw [baseC, hr]; rfl
  have HX := hidU hx
  have hbw : Below W.heap.size W w2 := b0.trans (b2.mono b0.size)
  clear hx
  rw [hw2]
  gi_wp2
  refine wpIn_range_sep (gf := 47) rfl enters_folders (folders_seq f w1.heap.size hf) (fun V hV => (hV _ rfl).trans bb2) (fun k hk => by rw [hk]; exact bb2.lt) rfl
    (fun pre C W => J (pre.map (libC sp)) C W) (fun c pre C W => c = .ret ∧ Jx (pre.map (libC sp)) C W) (fun pre C W W' h hs => hJ _ _ _ _ h hs) (fun c pre C W W' h hs => ⟨h.1, hJx _ _ _ _ h.2 hs⟩)
    C (fun k hk h => by have := hC k h; have := b0.size; omega) (fun k hk => Nat.lt_of_lt_of_le (hC k hk) hbw.size) (hJ _ _ _ _ h0 (fun k hk => hbw.block k (hC k hk)))
    (fun x => { tmps := #[.func (.yield l) #[] #[], .pointer (some ⟨bs, 0, none⟩), .pointer (some ⟨bf, 0, none⟩), .pointer (some ⟨W.heap.size, 0, none⟩), .string x, .string sp, .bool false, undef, undef, undef, undef, undef, .string f, .func (.func 47) #[] #[.pointer (some ⟨w1.heap.size, 0, none⟩)], .string x, undef, undef, undef, undef, undef, undef, undef, undef], defers := [] }) ?assign ?body ?done ?stop
  case assign =>
    intro l m x W K hK
    gi_wp2
    exact hK
  case body =>
    rintro l' m pre x rest C1 V hx hfr hj
    have hxz : x.size ≤ 2001 := by
      have := upL_size f x (by rw [hx]; simp)
      have := clean_2000 f
      omega
    have hxz5 : (x ++ { data := #[47, 108, 105, 98, 47] } : ByteArray).size ≤ 2006 := by rw [ByteArray.size_append]; show x.size + 5 ≤ _; omega
    have bsV : Boxed V bs 9 (.string sp) := (hfr.same bs bs2.lt hbsC).trans bs2
    have byV : Boxed V W.heap.size 39 (.func (.yield l) #[] #[]) := (hfr.same _ by2.lt (fun h => by have := hC _ h; omega)).trans by2
    have hv1 := bsV.cell
    have hv2 := byV.cell
    have HR : Hid (∀ w, Calls Try.prog 48 #[.string (x ++ { data := #[47, 108, 105, 98, 47] } ++ sp)] w fun e w' => e = .returned (.string (libC sp x)) ∧ Below w.heap.size w w') := fun w => clean_impl _ w (by rw [ByteArray.size_append]; omega)
    have HL : Hid (baseC f sp = pre.map (libC sp) ++ libC sp x :: rest.map (libC sp)) := by show baseC f sp = _; rw [HX.out, hx]; simp
    have HM : Hid ((pre ++ [x]).map (libC sp) = pre.map (libC sp) ++ [libC sp x]) := by show _ = _; simp
    have HN : Hid (∀ w2, Below V.heap.size V w2 → Fr C W C1 w2 ∧ J (pre.map (libC sp)) C1 w2) := fun w3 h3 =>
      ⟨(Fr.below hC hbw).trans (hfr.trans (Fr.below hfr.lt h3)), hJ _ _ _ _ hj (fun k hk => h3.block k (hfr.lt k hk))⟩
    have HF : Hid (∀ w2, Below V.heap.size V w2 → Fr C1 V C1 w2) := fun w3 h3 => Fr.below hfr.lt h3
    generalize libC sp x = y at HR HL HM
    clear hx hj hc1 hc2
    gi_wp2
    gi_region_with_o (first | (refine wide_callR (HR.out _) ?_; rintro e w3 ⟨rfl, hb3'⟩; have hb3 := below_of_drew hb3'; have hv1' := (hb3.cell (p := ⟨bs, 0, none⟩) bsV.lt).trans hv1; have hv2' := (hb3.cell (p := ⟨W.heap.size, 0, none⟩) byV.lt).trans hv2; obtain ⟨fn, tm, asg, bd, hy, hR'⟩ := hY (m - 1) (pre.map (libC sp)) y (rest.map (libC sp)) C1 w3 HL.out (HN.out w3 hb3).1 (HN.out w3 hb3).2; have hR := round_in (l' := l') hR') | (refine ⟨wide_ok, hR.mono ?_⟩; rintro e W3 ⟨C2, hf2, hj⟩; obtain ⟨bv, rfl, hj2⟩ := yield_or hj))
    all_goals rcases hj2 with ⟨rfl, hj2⟩ | ⟨rfl, hj2⟩
    all_goals gi_wp2
    all_goals first
      | exact ⟨C2, (HF.out w3 hb3).trans hf2, by show J ((pre ++ [x]).map (libC sp)) C2 W3; rw [HM.out]; exact hj2⟩
      | exact ⟨C2, (HF.out w3 hb3).trans hf2, rfl, by show Jx ((pre ++ [x]).map (libC sp)) C2 W3; rw [HM.out]; exact hj2⟩
  case done =>
    rintro D C1 V hD hfr hnD hj hK
    gi_wp2
    refine ⟨by simp, .inl ⟨_, _, rfl, run_takeDeferred hK, ?_⟩⟩
    refine ⟨_, results_none rfl _ _ _, ⟨_, rfl⟩, C1, ((Fr.below hC hbw).trans hfr).put (Nat.le_trans hbw.size hD) _, .inl ?_⟩
    rw [HX.out]
    exact hJ _ _ _ _ hj (put_same hnD)
  case stop =>
    rintro D c pre C1 V hD hpre hfr hnD ⟨rfl, hj⟩ hK
    gi_wp2
    refine ⟨by simp, .inl ⟨_, _, rfl, run_takeDeferred hK, ?_⟩⟩
    refine ⟨_, results_none rfl _ _ _, ⟨_, rfl⟩, C1, ((Fr.below hC hbw).trans hfr).put (Nat.le_trans hbw.size hD) _, .inr ⟨_, ?_, hJx _ _ _ _ hj (put_same hnD)⟩⟩
    rw [HX.out]
    exact List.IsPrefix.map _ hpre
theorem meant_seq (f sp : ByteArray) (bs bf : Nat) (hf : f.size ≤ 1048576) (hs : sp.size ≤ 1048576) : SeqC Try.prog 62 #[.pointer (some ⟨bs, 0, none⟩), .pointer (some ⟨bf, 0, none⟩)] (baseC f sp) (fun W => Boxed W bs 9 (.string sp) ∧ Boxed W bf 9 (.string f)) (fun k => k = bs ∨ k = bf) := by
  cases hr : relB sp with
  | true => exact meant_rel f sp bs bf hf hs hr
  | false => exact meant_lib f sp bs bf hf hs hr
set_option maxHeartbeats 1600000 in
theorem meantBy_any (f sp : ByteArray) (w : World) : Calls Try.prog 52 #[.string f, .string sp] w fun e w' => e = .returned (.func (.func 62) #[] #[.pointer (some ⟨w.heap.size + 1, 0, none⟩), .pointer (some ⟨w.heap.size, 0, none⟩)]) ∧ w' = (w.alloc (.cells #[.string f] 9)).alloc (.cells #[.string sp] 9) := by
  go_enter Try.func52, Try.ntmps52
  go_wp2
  go_ret
  exact ⟨rfl, rfl⟩
theorem enters_meant : ∀ args w, (callFunc 62 args).run Try.prog w = .ok (.enter 62 args) w := enters_of Try.func62 (by kernel_rfl) rfl
end Go.Proofs.Ytemfbibeoibpeaa
