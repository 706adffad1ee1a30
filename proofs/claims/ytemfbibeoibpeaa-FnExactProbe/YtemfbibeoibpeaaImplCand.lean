/-
  What impl.candidates' iterator tells, and impl.Candidates: the walks.
-/
import Derived.Test.YtemfbibeoibpeaaImplMeant
namespace Go.Proofs.Ytemfbibeoibpeaa
open Go.RowKit Go.PlainAid Go.Shelf

attribute [local go_sem] Oper.semAt_some

def CandI (J : List ByteArray → (Nat → Prop) → World → Prop) (n₀ t : Nat) (out : List ByteArray) (Cx : Nat → Prop) (W : World) : Prop :=
  ∃ (C1 : Nat → Prop) (g n cap : Nat), Cx = (fun k => C1 k ∨ k = t ∨ k = g) ∧ ¬ C1 t ∧ ¬ C1 g ∧ J out C1 W ∧ Boxed W t 25 (.slice (some ⟨g, 0, none⟩) n cap) ∧ OwnS W n₀ 9 g n cap out
theorem foldT_len (l : List ByteArray) : ∀ out : List ByteArray, (l.foldl addT out).length ≤ out.length + l.length := by
  induction l with
  | nil => intro out; exact Nat.le_refl _
  | cons x l ih =>
    intro out
    have h1 := ih (addT out x)
    have h2 : (addT out x).length ≤ out.length + 1 := by
      unfold addT
      split
      · omega
      · simp
    rw [List.foldl_cons, List.length_cons]
    omega
theorem own_iff (g n cap k : Nat) : (k = g) ↔ (Value.slice (some ⟨g, 0, none⟩) n cap).ownBlock = some k := by
  simp only [Value.ownBlock, Option.some.injEq]
  exact eq_comm
theorem CandI.loc {J : List ByteArray → (Nat → Prop) → World → Prop} (hJ : Loc J) (n₀ t : Nat) : Loc (CandI J n₀ t) := by
  rintro out Cx W W' ⟨C1, g, n, cap, rfl, h1, h2, h3, h4, h5⟩ hs
  exact ⟨C1, g, n, cap, rfl, h1, h2, hJ _ _ _ _ h3 (fun k hk => hs k (.inl hk)), (hs t (.inr (.inl rfl))).trans h4, ownS_keep h5 (hs g (.inr (.inr rfl)))⟩
def CandX (Jx : List ByteArray → (Nat → Prop) → World → Prop) (xs : List ByteArray) (Cx : Nat → Prop) (W : World) : Prop := ∃ (C1 : Nat → Prop) (q : List ByteArray), (∀ k, C1 k → Cx k) ∧ q <+: xs ∧ Jx q C1 W
theorem CandX.loc {Jx : List ByteArray → (Nat → Prop) → World → Prop} (hJ : Loc Jx) (xs : List ByteArray) : Loc (fun (_ : List ByteArray) => CandX Jx xs) := by
  rintro _ Cx W W' ⟨C1, q, h1, h2, h3⟩ hs
  exact ⟨C1, q, h1, h2, hJ _ _ _ _ h3 (fun k hk => hs k (h1 k hk))⟩

set_option maxRecDepth 100000 in
set_option maxHeartbeats 2000000 in
theorem cand_seq (f sp : ByteArray) (bf bs : Nat) (hf : f.size ≤ 1048576) (hs : sp.size ≤ 1048576) : SeqC Try.prog 51 #[.pointer (some ⟨bf, 0, none⟩), .pointer (some ⟨bs, 0, none⟩)] (candS f sp) (fun W => Boxed W bf 9 (.string f) ∧ Boxed W bs 9 (.string sp)) (fun k => k = bf ∨ k = bs) := fun n l J Jx C W hH hBC hJ hJx hC h0 hY => by
  obtain ⟨i0, hi, hz0, hz1, hz2⟩ := info_parts Try.infoStr
  refine callsIn_of_wp_marks Try.func51 rfl trivial ?_ rfl
  simp only [Try.ntmps51, List.size_toArray, List.length_cons, List.length_nil, Nat.reduceAdd, Nat.reduceSub, Array.replicate_succ, Array.replicate_zero, List.push_toArray, List.append_toArray, List.nil_append, List.cons_append]
  obtain ⟨W0, hW0⟩ : ∃ W0, ((W.alloc (.cells #[.func (.yield l) #[] #[]] 39)).alloc (.cells #[] 9)).alloc (.cells #[.slice (some ⟨W.heap.size + 1, 0, none⟩) 0 0] 25) = W0 := ⟨_, rfl⟩
  have b0 : Below W.heap.size W W0 := by rw [← hW0]; exact (((Below.refl _ _).alloc (Nat.le_refl _) _).alloc (by simp) _).alloc (by simp; omega) _
  have HZ : Hid (W0.heap.size = W.heap.size + 3) := by show _ = _; rw [← hW0]; simp
  have by0 : Boxed W0 W.heap.size 39 (.func (.yield l) #[] #[]) := by rw [← hW0]; exact ((Boxed.new W _ _).alloc _).alloc _
  have bt0 : Boxed W0 (W.heap.size + 1 + 1) 25 (.slice (some ⟨W.heap.size + 1, 0, none⟩) 0 0) := by
    rw [← hW0]
    have := Boxed.new ((W.alloc (.cells #[.func (.yield l) #[] #[]] 39)).alloc (.cells #[] 9)) 25 (.slice (some ⟨W.heap.size + 1, 0, none⟩) 0 0)
    rw [World.size_alloc, World.size_alloc] at this
    exact this
  have ow0 : OwnS W0 W.heap.size 9 (W.heap.size + 1) 0 0 [] := by
    have h1 := World.ownsRow_lit (W.alloc (.cells #[.func (.yield l) #[] #[]] 39)) (base := W.heap.size) (e := 9) (size := 1) #[] 0 (by simp) (by unfold maxLen; omega) rfl
    rw [World.size_alloc] at h1
    rw [← hW0]
    exact ⟨h1.alloc _, rfl⟩
  have bf0 : Boxed W0 bf 9 (.string f) := (b0.block bf hH.1.lt).trans hH.1
  have bs0 : Boxed W0 bs 9 (.string sp) := (b0.block bs hH.2.lt).trans hH.2
  have hcf := bf0.cell
  have hcs := bs0.cell
  gi_wp2
  refine wide_call (meantBy_any f sp _) ?_
  rintro e w' ⟨rfl, rfl⟩
  obtain ⟨w3, hw3⟩ : ∃ w3, (W0.alloc (.cells #[.string f] 9)).alloc (.cells #[.string sp] 9) = w3 := ⟨_, rfl⟩
  have bf3 : Boxed w3 W0.heap.size 9 (.string f) := by rw [← hw3]; exact (Boxed.new W0 _ _).alloc _
  have bs3 : Boxed w3 (W0.heap.size + 1) 9 (.string sp) := by
    rw [← hw3]
    have := Boxed.new (W0.alloc (.cells #[.string f] 9)) 9 (.string sp)
    rw [World.size_alloc] at this
    exact this
  have b3 : Below W0.heap.size W0 w3 := by rw [← hw3]; exact ((Below.refl _ _).alloc (Nat.le_refl _) _).alloc (by simp) _
  have by3 : Boxed w3 W.heap.size 39 (.func (.yield l) #[] #[]) := (b3.block _ by0.lt).trans by0
  have bt3 : Boxed w3 (W.heap.size + 1 + 1) 25 (.slice (some ⟨W.heap.size + 1, 0, none⟩) 0 0) := (b3.block _ bt0.lt).trans bt0
  have ow3 : OwnS w3 W.heap.size 9 (W.heap.size + 1) 0 0 [] := ownS_later ow0 b3
  have hbw : Below W.heap.size W w3 := b0.trans (b3.mono b0.size)
  have HW3 : Hid (w3.heap.size = W0.heap.size + 2) := by show _ = _; rw [← hw3]; simp
  rw [hw3]
  clear hW0 hw3 hcf hcs by0 bt0 ow0
  have HB := hidU b3
  clear b3
  gi_wp2
  refine wpIn_range_sep (gf := 62) rfl enters_meant (meant_seq f sp (W0.heap.size + 1) W0.heap.size hf hs) (fun V hV => ⟨(hV _ (.inl rfl)).trans bs3, (hV _ (.inr rfl)).trans bf3⟩) (fun k hk => by rw [HW3.out]; omega) rfl
    (fun pre => CandI J W.heap.size (W.heap.size + 1 + 1) (candF pre)) (fun c _ Cx V => c = .ret ∧ CandX Jx (candS f sp) Cx V) (fun pre C W W' h hs => CandI.loc hJ _ _ _ _ _ _ h hs) (fun c pre C W W' h hs => ⟨h.1, CandX.loc hJx _ pre _ _ _ h.2 hs⟩)
    (fun k => C k ∨ k = W.heap.size + 1 + 1 ∨ k = W.heap.size + 1) ?apart ?inside ⟨C, _, _, _, rfl, fun h => (by have := hC _ h; omega), fun h => (by have := hC _ h; omega), hJ _ _ _ _ h0 (fun k hk => hbw.block k (hC k hk)), bt3, ow3⟩
    (fun x => { tmps := #[.func (.yield l) #[] #[], .pointer (some ⟨bf, 0, none⟩), .pointer (some ⟨bs, 0, none⟩), .pointer (some ⟨W.heap.size, 0, none⟩), .pointer (some ⟨W.heap.size + 1 + 1, 0, none⟩), .string x, undef, undef, .slice (some ⟨W.heap.size + 1, 0, none⟩) 0 0, .string f, .string sp, .func (.func 62) #[] #[.pointer (some ⟨W0.heap.size + 1, 0, none⟩), .pointer (some ⟨W0.heap.size, 0, none⟩)], .string x, undef, undef, undef, undef, undef, undef, undef, undef, undef, undef, undef, undef, undef, undef, undef, undef, undef, undef, undef], defers := [] }) ?assign ?body ?done ?stop
  case apart =>
    have := HZ.out
    rintro k hk (h | h | h)
    · have := hC k h; omega
    · omega
    · omega
  case inside =>
    have := HZ.out
    have := HW3.out
    rintro k (h | h | h)
    · have := hC k h; omega
    · omega
    · omega
  case assign =>
    intro l m x W K hK
    gi_wp2
    exact hK
  case body =>
    rintro l' m pre x rest Cx V hx hfr ⟨C1, g, n, cap, rfl, h1, h2, hj, hbx, how⟩
    have hxb : x ∈ baseC f sp := by rw [hx]; simp
    have hxz := baseC_size f sp x hxb
    have hon : (candF pre).length ≤ 6003 := by
      have h3 := candF_len pre
      have h4 := baseC_len f sp
      rw [hx] at h4
      simp at h4
      omega
    have hsn : candF (pre ++ [x]) = (pathsC x).foldl addT (candF pre) := by rw [candF_snoc, candB_paths]
    have hpre : candF (pre ++ [x]) <+: candS f sp := by
      have h3 := candF_pre rest (pre ++ [x])
      rw [List.append_assoc, List.singleton_append, ← hx, cand_base] at h3
      exact h3
    have HP := hidU hpre
    have HSN := hidU hsn
    have HCI : Hid (CandI J W.heap.size (W.heap.size + 1 + 1) (candF pre) (fun k => C1 k ∨ k = W.heap.size + 1 + 1 ∨ k = g) V) := ⟨C1, g, n, cap, rfl, h1, h2, hj, hbx, how⟩
    have HFR := hidU hfr
    generalize hCx : (fun k => C1 k ∨ k = W.heap.size + 1 + 1 ∨ k = g) = Cx at HCI HFR
    clear hCx h1 h2 hj hbx how hx hxb hsn hpre hfr
    obtain ⟨all, hall⟩ : ∃ all, candF (pre ++ [x]) = all := ⟨_, rfl⟩
    rw [hall] at HP HSN
    have HALL := hidU hall
    clear hall
    generalize candF pre = out0 at HSN HCI hon
    gi_wp2
    refine wide_callR (pathsFor_any x _ (by omega)) ?_
    rintro e V1 ⟨a, np, capp, rfl, ho, hb1⟩
    have hnp : np ≤ 3 := by rw [ho.1]; exact pathsC_len x
    have HO := hidU ho
    have HB1 := hidU hb1
    have HC1 : Hid (CandI J W.heap.size (W.heap.size + 1 + 1) out0 Cx V1) := CandI.loc hJ _ _ _ _ _ _ HCI.out (fun k hk => hb1.block k (HFR.out.lt k hk))
    generalize pathsC x = ps at HSN HO
    clear ho hb1 HCI
    gi_wp2
    gi_loopw [16] (fun i wr => ∃ (k : Nat) (Cy : Nat → Prop), k ≤ np ∧ i = .int .i64 k ∧ CandI J W.heap.size (W.heap.size + 1 + 1) ((ps.take k).foldl addT out0) Cy wr ∧ Fr Cx V1 Cy wr) (fun i _ => (np - intOf i).toNat)
    case atStart => exact ⟨0, Cx, Nat.zero_le _, rfl, HC1.out, Fr.refl (fun k hk => Nat.lt_of_lt_of_le (HFR.out.lt k hk) HB1.out.size)⟩
    case round =>
      obtain ⟨k, Cy, hk, rfl, hci, hfy⟩ := hrel
      by_cases hlt : k < np
      · have hlti : (k : Int) < (np : Int) := by omega
        obtain ⟨gp, rfl, hop⟩ := HO.out.2 (by omega)
        have hgpx : ¬ Cx gp := fun h => by have := HFR.out.lt gp h; have := (ownS_blk hop).1; omega
        have hcell := ownS_cell (ownS_keep hop (hfy.same gp (ownS_blk hop).2 hgpx)) k hlt
        have hget : ps[k]? = some (ps.getD k { data := #[] }) := by
          rw [List.getD_eq_getElem?_getD, List.getElem?_eq_getElem (by rw [← HO.out.1]; exact hlt)]
          rfl
        generalize ps.getD k { data := #[] } = p at hcell hget
        have htk : (ps.take (k + 1)).foldl addT out0 = addT ((ps.take k).foldl addT out0) p := fold_take addT out0 hget
        have hpk : (ps.take (k + 1)).foldl addT out0 <+: candS f sp := by
          refine List.IsPrefix.trans ?_ HP.out
          rw [HSN.out]
          conv => rhs; rw [← List.take_append_drop (k + 1) ps, List.foldl_append]
          exact foldT_pre _ _
        have hlo : ((ps.take k).foldl addT out0).length ≤ 6006 := by
          have h3 := foldT_len (ps.take k) out0
          rw [List.length_take] at h3
          omega
        obtain ⟨k1, hk1⟩ : ∃ k1, k1 = k + 1 := ⟨_, rfl⟩
        have ek : (k : Int) + 1 = (k1 : Int) := by omega
        have HK1 := hidU hk1
        have HK : Hid (k < np) := hlt
        have HTK := hidU htk
        have HPK := hidU hpk
        clear hget htk hpk hop hlt hk1
        obtain ⟨C1, g, n, cap, hCy, h1, h2, hj, hbx, how⟩ := hci
        have HCY := hidU hCy
        generalize (ps.take k).foldl addT out0 = out at hj how HTK hlo
        have hcb := hbx.cell
        have HFW : Hid (Fr (fun k => C k ∨ k = W.heap.size + 1 + 1 ∨ k = W.heap.size + 1) w3 Cy wr) := HFR.out.trans ((Fr.below HFR.out.lt HB1.out).trans hfy)
        have byW : Boxed wr W.heap.size 39 (.func (.yield l) #[] #[]) := (HFW.out.same _ by3.lt (by
          rintro (h | h | h)
          · have := hC _ h; omega
          · omega
          · omega)).trans by3
        have hcy := byW.cell
        have hn6 : n ≤ 6006 := by rw [ownS_len how]; exact hlo
        have HFI : Hid (Fr C W C1 wr) := Fr.inner hbw (by
          rintro k (h | h | h)
          · exact .inl h
          · right; omega
          · right; omega) HFW.out (fun k hk => by rw [hCy]; exact .inl hk)
        clear hCy
        gi_wp2
        refine wide_callR (containsS_any W.heap.size g n cap out p _ how (by omega)) ?_
        rintro e w' ⟨rfl, rfl⟩
        cases hin : inT out p with
        | true =>
          gi_wp2
          go_roundw
          case rel =>
            refine ⟨k1, Cy, ?_, rfl, ⟨C1, g, n, cap, HCY.out, h1, h2, ?_, hbx, ?_⟩, hfy⟩
            · have := HK.out; have := HK1.out; omega
            · rw [HK1.out, HTK.out, addT_in hin]; exact hj
            · rw [HK1.out, HTK.out, addT_in hin]; exact how
          case measure =>
            have := HK.out; have := HK1.out
            simp only [intOf]
            omega
        | false =>
          have HTN : Hid ((ps.take (k + 1)).foldl addT out0 = out ++ [p]) := by show _ = _; rw [HTK.out, addT_new hin]
          obtain ⟨rst, hrst⟩ := HPK.out
          rw [HTN.out, List.append_assoc, List.singleton_append] at hrst
          obtain ⟨fn, tm, asg, bd, hy, hR'⟩ := hY (m - 1) out p rst C1 w' hrst.symm HFI.out hj
          have hR := round_in (l' := l') hR'
          clear hR' hrst HTK
          gi_wp2
          refine ⟨wide_ok, hR.mono ?_⟩
          rintro e W4 ⟨C2, hf2, hj2⟩
          obtain ⟨bv, rfl, hj3⟩ := yield_or hj2
          have htl := hbx.lt
          have hgl := (ownS_blk how).2
          have bx4 : Boxed W4 (W.heap.size + 1 + 1) 25 (.slice (some ⟨g, 0, none⟩) n cap) := (hf2.same _ htl h1).trans hbx
          have ow4 : OwnS W4 W.heap.size 9 g n cap out := ownS_keep how (hf2.same g hgl h2)
          have h14 : ¬ C2 (W.heap.size + 1 + 1) := fun h => (hf2.sub _ h).elim h1 (fun h => by omega)
          have h24 : ¬ C2 g := fun h => (hf2.sub _ h).elim h2 (fun h => by omega)
          have HF4 : Hid (Fr Cx V1 (fun k => C2 k ∨ k = W.heap.size + 1 + 1 ∨ k = g) W4) := by
            refine hfy.trans ?_
            rw [HCY.out]
            exact hf2.more (by
              rintro k (h | h)
              · rw [h]; exact htl
              · rw [h]; exact hgl)
          rcases hj3 with ⟨rfl, hj3⟩ | ⟨rfl, hj3⟩
          · have hc4 := bx4.cell
            have hrow := ow4.1
            have hsz4 : W.heap.size ≤ W4.heap.size := Nat.le_trans HFI.out.size hf2.size
            gi_wp2_with (gi_at_builtin; refine wpListIn_append_at _ rfl _ _ 25 rfl W.heap.size 9 i0 (.string { data := #[] }) 1 16 Try.underlying25 hi hz0 hz1 hz2 rfl (by decide) _ _ _ rfl (hrow.alloc _) ⟨W4.heap.size, 0, none⟩ 1 1 [.string p] rfl rfl (cell_one_new _ _ _) (by simp [Value.oneCell']) (by unfold maxLen; omega) (by omega) (by simp; omega) ?_; intro v' w1 hown' hgrow hat; obtain ⟨g', cap', rfl⟩ := ownsRow_succ hown'; obtain ⟨hv1, hv2, hr2, hf5⟩ := boxed_grown bx4 (by decide) hrow hsz4 (by omega) hown' hgrow hat; have hc1 := hv1.cell; have hf1 := hv1.frozen)
            have hat' : g' = g ∨ W4.heap.size ≤ g' := by
              rcases hat with h | h
              · exact .inl ((own_iff g n cap g').2 (h.symm.trans rfl))
              · right
                have := (own_iff g' (n + 1) cap' _).2 h
                rw [World.size_alloc] at this
                omega
            have hf6 := (hf5.congr (fun k => or_congr Iff.rfl (own_iff g n cap k).symm) (fun k => or_congr Iff.rfl (own_iff g' (n + 1) cap' k).symm)).more (R := C2) hf2.lt
            go_roundw
            case rel =>
              refine ⟨k1, (fun k => C2 k ∨ k = W.heap.size + 1 + 1 ∨ k = g'), ?_, rfl, ⟨C2, g', n + 1, cap', rfl, h14, ?_, ?_, hv2, ?_⟩, HF4.out.trans (hf6.congr (fun k => or_comm) (fun k => or_comm))⟩
              · have := HK.out; have := HK1.out; omega
              · intro h
                rcases hat' with e | e
                · exact h24 (e ▸ h)
                · have := hf2.lt g' h; omega
              · rw [HK1.out, HTN.out]
                refine hJ _ _ _ _ hj3 (fun k hk => hf5.same k (hf2.lt k hk) ?_)
                rintro (h | h)
                · exact h14 (h ▸ hk)
                · exact h24 ((own_iff g n cap k).2 h ▸ hk)
              · rw [HK1.out, HTN.out]
                exact ⟨by rw [List.map_append]; exact hr2, by rw [List.length_append, ← ownS_len ow4]; rfl⟩
            case measure =>
              have := HK.out; have := HK1.out
              simp only [intOf]
              omega
          · gi_wp2
            exact ⟨_, (Fr.below HFR.out.lt HB1.out).trans HF4.out, rfl, C2, out ++ [p], fun k hk => .inl hk, by rw [← HTN.out]; exact HPK.out, hj3⟩
      · obtain rfl : k = np := by omega
        gi_wp2
        refine ⟨Cy, (Fr.below HFR.out.lt HB1.out).trans hfy, ?_⟩
        rw [HO.out.1, List.take_length, ← HSN.out, ← HALL.out] at hci
        exact hci
  case done =>
    rintro D Cx V hD hfr hnD ⟨C1, g, n, cap, rfl, h1, h2, hj, hbx, how⟩ hK
    gi_wp2
    refine ⟨by simp, .inl ⟨_, _, rfl, run_takeDeferred hK, ?_⟩⟩
    refine ⟨_, results_none rfl _ _ _, ⟨_, rfl⟩, C1, (Fr.inner hbw ?_ hfr (fun k hk => .inl hk)).put (Nat.le_trans hbw.size hD) _, .inl ?_⟩
    · rintro k (h | h | h)
      · exact .inl h
      · right; omega
      · right; omega
    · rw [← cand_base]
      exact hJ _ _ _ _ hj (put_same (fun h => hnD (.inl h)))
  case stop =>
    rintro D c pre Cx V hD hpre hfr hnD ⟨rfl, C1, q, h1, h2, hj⟩ hK
    gi_wp2
    refine ⟨by simp, .inl ⟨_, _, rfl, run_takeDeferred hK, ?_⟩⟩
    refine ⟨_, results_none rfl _ _ _, ⟨_, rfl⟩, C1, (Fr.inner hbw ?_ hfr h1).put (Nat.le_trans hbw.size hD) _, .inr ⟨q, h2, hJx _ _ _ _ hj (put_same (fun h => hnD (h1 _ h)))⟩⟩
    rintro k (h | h | h)
    · exact .inl h
    · right; omega
    · right; omega
set_option maxHeartbeats 1600000 in
theorem candidates_any (f sp : ByteArray) (w : World) : Calls Try.prog 35 #[.string f, .string sp] w fun e w' => e = .returned (.func (.func 51) #[] #[.pointer (some ⟨w.heap.size, 0, none⟩), .pointer (some ⟨w.heap.size + 1, 0, none⟩)]) ∧ w' = (w.alloc (.cells #[.string f] 9)).alloc (.cells #[.string sp] 9) := by
  go_enter Try.func35, Try.ntmps35
  go_wp2
  go_ret
  exact ⟨rfl, rfl⟩
theorem enters_cand : ∀ args w, (callFunc 51 args).run Try.prog w = .ok (.enter 51 args) w := enters_of Try.func51 (by kernel_rfl) rfl
theorem boxed_two (w : World) (t : TypeId) (u v : Value) : Boxed ((w.alloc (.cells #[u] t)).alloc (.cells #[v] t)) w.heap.size t u ∧ Boxed ((w.alloc (.cells #[u] t)).alloc (.cells #[v] t)) (w.heap.size + 1) t v := by
  refine ⟨(Boxed.new w _ _).alloc _, ?_⟩
  have := Boxed.new (w.alloc (.cells #[u] t)) t v
  rw [World.size_alloc] at this
  exact this
set_option maxHeartbeats 1600000 in
theorem cand_impl (f sp : ByteArray) (w : World) (hf : f.size ≤ 1048576) (hs : sp.size ≤ 1048576) :
    Calls Try.prog 16 #[.string f, .string sp] w fun e w' => ∃ a n cap, e = .returned (.slice a n cap) ∧ OutS w' w.heap.size a n cap (candS f sp) ∧ Below w.heap.size w w' := by
  have hlen : (candS f sp).length ≤ 100000 := by
    rw [← cand_base]
    have h1 := candF_len (baseC f sp)
    have h2 := baseC_len f sp
    omega
  go_enter Try.func16, Try.ntmps16
  go_wp2_with fail
  refine (candidates_any f sp _).mono ?_
  rintro e w1 ⟨rfl, rfl⟩
  obtain ⟨bx1, bx2⟩ := boxed_two w 9 (.string f) (.string sp)
  go_wp2_with fail
  refine (collect_any 51 _ (candS f sp) _ _ (cand_seq f sp w.heap.size (w.heap.size + 1) hf hs) enters_cand _ (fun W hW => ⟨(hW _ (.inl rfl)).trans bx1, (hW _ (.inr rfl)).trans bx2⟩) (fun k hk => by simp; omega) hlen).mono ?_
  rintro e w2 ⟨a, n, cap, rfl, ho, hb⟩
  go_wp2
  go_ret
  exact ⟨a, n, cap, rfl, OutS.low ho (by simp; omega), (((Below.refl _ w).alloc (Nat.le_refl _) _).alloc (by simp) _).trans (hb.mono (by simp; omega))⟩
end Go.Proofs.Ytemfbibeoibpeaa
