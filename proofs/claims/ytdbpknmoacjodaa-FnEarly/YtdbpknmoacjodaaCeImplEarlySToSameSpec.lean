/-
  What impl's hasSpaceAlone answers: the walk.
  What impl.Early answers: the walk.
  What slices.Equal answers of rows of the call's own, the model's != handed in: the walks.
  Two programs in memory side by side. No program is spoken of but for the numbers of its types.
  What a Print and a Parse tell, as a ModOk takes it. No program is spoken of but for the numbers of its types.
  What l4Same of the specification answers, the model's != handed in: the walk.
-/
import Derived.Test.YtdbpknmoacjodaaCeImplEarlyCToEarlySame
import Derived.Test.YtdbpknmoacjodaaCeNamesSeq
namespace Go.Proofs.Ytdbpknmoacjodaa
open Go.RowKit Go.PlainAid Go.Shelf

theorem any_names (m : Md) (f : ByteArray → Bool) : (nmV m).any f = (m.st.any (fun x => x.kind == 3 && f x.name) || m.ex.any (fun x => (x.kind == 2 || x.kind == 3) && f x.name)) := by
  rw [nmV, List.any_append, nmSt, nmEx, List.any_map, List.any_map, List.any_filter, List.any_filter]
  rfl
structure SpW (w : World) (b : Nat) (L : List (Int × ByteArray)) (bx : Obj) (W : World) : Prop where
  cnt : CntW W b L
  own : W.heap[w.heap.size]? = some (.cells #[.map (some b)] 147)
  box : W.heap[w.heap.size + 1]? = some bx
  res : W.heap[w.heap.size + 1 + 1]? = some (.cells #[.bool false] 4)
  bel : Below w.heap.size w W
theorem SpW.later {w : World} {b : Nat} {L : List (Int × ByteArray)} {bx : Obj} {W W' : World} (h : SpW w b L bx W) (hb : Below W.heap.size W W') : SpW w b L bx W' :=
  ⟨h.cnt.kept (hb.block b h.cnt.lt), blk_later h.own hb, blk_later h.box hb, blk_later h.res hb, h.bel.trans (hb.mono h.bel.size)⟩
theorem results_one {P : Program} {fn : Func} {p : Tmp} {t : TypeId} (h : fn.results = #[.cell p t]) (tmps : Array Value) (w : World) {a : Addr} {x : Value} (hp : tmps.getD p undef = .pointer (some a)) (h1 : (loadVar t a).run P w = .ok x w) : (results fn tmps).run P w = .ok x w := by
  have hp' : tmps[p]?.getD undef = .pointer (some a) := by simpa using hp
  simp only [results, h]
  simp [asAddr, hp', h1]
theorem load_flag {w : World} {b : Nat} {v : Value} (h : w.heap[b]? = some (.cells #[v] 4)) : (loadVar 4 ⟨b, 0, none⟩).run Try.prog w = .ok v w := by
  have hc : w.cell? ⟨b, 0, none⟩ = some v := by simp [World.cell?, h]
  simp [loadVar, isAgg, underlying, Sem.run_bind, Result.andThen, go_sem, Try.underlying4, hc]
theorem Hd.stored {C C' : Nat → Prop} {W W' : World} (h : Hd C W C' W') {p : Addr} (hp : C' p.block) (v : Value) : Hd C W C' (W'.setCell p v) :=
  ⟨h.os, h.tape, h.output, by show _ ≤ (W'.heap.modify _ _).size; rw [Array.size_modify]; exact h.size,
   fun k hk hc => (Below.heap_setCell W' p v k (fun e => (h.sub _ hp).elim (fun h1 => hc (e ▸ h1)) (fun h1 => by omega))).trans (h.same k hk hc), h.sub,
   fun k hk => by show _ < (W'.heap.modify _ _).size; rw [Array.size_modify]; exact h.lt k hk⟩
attribute [local go_sem] Oper.semAt_some
set_option maxRecDepth 100000 in
set_option maxHeartbeats 4000000 in
theorem hasSpace_any (b : Nat) (L : List (Int × ByteArray)) (V : Sv) (m : Md) (w : World) (h : CntW w b L) (hE : RowAt w V.ep.a epL 4 m.ep) (hS : RowAt w V.st.a smL 3 m.st) (hX : RowAt w V.ex.a exL 6 m.ex) (lE : m.ep.length ≤ 10000) (lS : m.st.length ≤ 10000) (lX : m.ex.length ≤ 10000) (hn : NameOk m) :
    Calls Try.prog 102 #[.map (some b), modD V m] w fun e w' => e = .returned (.bool (m.ep.any (seI L) || (m.st.any (ssI L) || m.ex.any (sxI L)))) ∧ Below w.heap.size w w' := by
  have HN := hidI hn
  obtain ⟨n, hn'⟩ : ∃ n : Nat, n = 3 := ⟨_, rfl⟩
  clear hn hn'
  refine (callsIn_wide (n := n)).1 ?_
  refine callsIn_of_wp_marks Try.func102 rfl trivial ?_ rfl
  simp only [Try.ntmps102, List.size_toArray, List.length_cons, List.length_nil, Nat.reduceAdd, Nat.reduceSub, Array.replicate_succ, Array.replicate_zero, List.push_toArray, List.append_toArray, List.nil_append, List.cons_append]
  obtain ⟨W1, hW1⟩ : ∃ W1, w.alloc (.cells #[.map (some b)] 147) = W1 := ⟨_, rfl⟩
  have e1 : W1.heap.size = w.heap.size + 1 := by rw [← hW1, alloc_size]
  obtain ⟨W2, hW2⟩ : ∃ W2, W1.alloc (.cells #[.slice V.rq.a m.rq.length V.rq.cap, .slice V.im.a m.im.length V.im.cap, .slice V.ep.a m.ep.length V.ep.cap, .slice V.st.a m.st.length V.st.cap, .slice V.ex.a m.ex.length V.ex.cap] 37) = W2 := ⟨_, rfl⟩
  have e2 : W2.heap.size = w.heap.size + 1 + 1 := by rw [← hW2, alloc_size, e1]
  obtain ⟨w0, hw0⟩ : ∃ w0, W2.alloc (.cells #[.bool false] 4) = w0 := ⟨_, rfl⟩
  have e0 : w0.heap.size = w.heap.size + 1 + 1 + 1 := by rw [← hw0, alloc_size, e2]
  have b1 : Below w.heap.size w W1 := by rw [← hW1]; exact (Below.refl _ _).alloc (Nat.le_refl _) _
  have b2 : Below W1.heap.size W1 W2 := by rw [← hW2]; exact (Below.refl _ _).alloc (Nat.le_refl _) _
  have b3 : Below W2.heap.size W2 w0 := by rw [← hw0]; exact (Below.refl _ _).alloc (Nat.le_refl _) _
  have S0 : Hid (SpW w b L (boxD V m) w0) := by
    have x1 : W1.heap[w.heap.size]? = some (.cells #[.map (some b)] 147) := by rw [← hW1]; exact heap_alloc_new w _
    have x2 : W2.heap[w.heap.size + 1]? = some (boxD V m) := by rw [← hW2, ← e1]; exact heap_alloc_new W1 _
    have x3 : w0.heap[w.heap.size + 1 + 1]? = some (.cells #[.bool false] 4) := by rw [← hw0, ← e2]; exact heap_alloc_new W2 _
    have bb : Below w.heap.size w w0 := b1.trans ((b2.trans (b3.mono b2.size)).mono b1.size)
    exact hidI ⟨h.kept (bb.block b h.lt), blk_later (blk_later x1 b2) b3, blk_later x2 b3, x3, bb⟩
  have HE := hidI hE
  have HS := hidI hS
  have HX := hidI hX
  have L0 : Hid (w0.heap.size = w.heap.size + 1 + 1 + 1) := hidI e0
  have LB : Hid (b < w.heap.size) := hidI h.lt
  have ANS := hidI (any_names m (hB L 3))
  unfold modD
  clear h hE hS hX b1 b2 b3
  obtain ⟨c0, c1, c2, c3, c4, cf⟩ := five_of S0.out.box
  clear e0
  gi_wp2
  clear hW1 hW2 hw0 e1 e2
  gi_loopw [11] (fun i wr => ∃ k : Nat, k ≤ m.ep.length ∧ i = .int .i64 k ∧ Hid ((m.ep.take k).any (seI L) = false) ∧ Hid (SpW w b L (boxD V m) wr)) (fun i _ => (m.ep.length - intOf i).toNat)
  case atStart => exact ⟨0, Nat.zero_le _, rfl, hidI rfl, S0⟩
  case round =>
    obtain ⟨k, hk, rfl, HNO, HU⟩ := hrel
    clear S0 c0 c1 c2 c3 c4 cf
    by_cases hlt : k < m.ep.length
    · obtain ⟨x, hx⟩ : ∃ x, m.ep[k]? = some x := ⟨_, List.getElem?_eq_getElem hlt⟩
      obtain ⟨b1, off, ha, hc⟩ := (HE.out.later HU.out.bel).get hx
      rw [ha]
      have d0 := hc 0 _ rfl
      have d1 := hc 1 _ rfl
      have d2 := hc 2 _ rfl
      have d3 := hc 3 _ rfl
      simp only [Nat.add_zero] at d0
      have NS := hidI ((HN.out.2.2.1 x (List.mem_of_getElem? hx)).2)
      have HXX := hidI hx
      obtain ⟨W2, hW2⟩ : ∃ W2, W2 = wr.alloc (.cells #[.int .i64 x.kind, .string x.name, .string x.loc, .string x.spec] 79) := ⟨_, rfl⟩
      have hb2 : Below wr.heap.size wr W2 := by rw [hW2]; exact (Below.refl _ _).alloc (Nat.le_refl _) _
      have U2 := hidI (HU.out.later hb2)
      have hg : (wr.alloc (.cells #[.int .i64 x.kind, .string x.name, .string x.loc, .string x.spec] 79)).cell? ⟨w.heap.size, 0, none⟩ = some (.map (some b)) := by rw [← hW2]; exact Boxed.cell U2.out.own
      clear hb2 hc hx ha HU
      cases hk1 : (x.kind == 1) with
      | true =>
        gi_wp2
        rw [← hW2]
        refine wide_call (has_any b L 3 x.loc W2 U2.out.cnt (roleN (by decide) (by decide) NS.out)) ?_
        rintro e W4 ⟨rfl, hw⟩
        rw [hw]
        clear hw W4 hg hW2
        obtain ⟨v, hv⟩ : ∃ v, v = decide (0 < cnt L (3, x.loc)) := ⟨_, rfl⟩
        have HV := hidI hv
        rw [← hv]
        clear hv
        cases v with
        | true =>
          have hz := Boxed.cell U2.out.res
          have hzf := Boxed.frozen U2.out.res
          have HR : Hid (m.ep.any (seI L) = true) := any_first HXX.out (by rw [seI, hk1, hB, ← HV.out]; rfl)
          have hq : (W2.setCell ⟨w.heap.size + 1 + 1, 0, none⟩ (.bool true)).heap[w.heap.size + 1 + 1]? = some (.cells #[.bool true] 4) := by
            rw [qcell (i := 0) (u := .bool true) U2.out.res]
            rfl
          gi_wp2
          exact ⟨_, results_one rfl _ _ rfl (load_flag hq), by rw [HR.out]; rfl, U2.out.bel.setCell (by show w.heap.size ≤ w.heap.size + 1 + 1; omega) _⟩
        | false =>
          have HN2 : Hid ((m.ep.take (k + 1)).any (seI L) = false) := any_snoc HXX.out HNO.out (by rw [seI, hk1, hB, ← HV.out]; rfl)
          gi_wp2
          go_roundw
          case rel => exact ⟨k + 1, hlt, by go_num, HN2, U2⟩
          case measure => simp [intOf]; omega
      | false =>
        have HN2 : Hid ((m.ep.take (k + 1)).any (seI L) = false) := any_snoc HXX.out HNO.out (by rw [seI, hk1]; rfl)
        gi_wp2
        refine ⟨trivial, ?_⟩
        gi_wp2
        rw [← hW2]
        go_roundw
        case rel => exact ⟨k + 1, hlt, by go_num, HN2, U2⟩
        case measure => simp [intOf]; omega
    · obtain rfl : k = m.ep.length := by omega
      rw [List.take_length] at HNO
      obtain ⟨c0, c1, c2, c3, c4, cf⟩ := five_of HU.out.box
      gi_wp2
      refine wide_call (valueNames_any V m _) ?_
      rintro e w' ⟨rfl, rfl⟩
      obtain ⟨w2, hw2⟩ : ∃ w2, wr.alloc (boxD V m) = w2 := ⟨_, rfl⟩
      have b12 : Below wr.heap.size wr w2 := by rw [← hw2]; exact (Below.refl _ _).alloc (Nat.le_refl _) _
      have U2 := hidI (HU.out.later b12)
      have NH : Hid (NmH V m wr.heap.size w2) := hidI ⟨by rw [← hw2]; exact heap_alloc_new wr _, HS.out.later U2.out.bel, HX.out.later U2.out.bel⟩
      have LR : Hid (w.heap.size + 1 + 1 < wr.heap.size) := hidI (Array.getElem?_eq_some_iff.1 HU.out.res).1
      have LR2 : Hid (wr.heap.size ≤ w2.heap.size) := hidI b12.size
      have HNB : Hid (∀ k, NmB V m wr.heap.size k → ¬ k = w.heap.size + 1 + 1) := hidI (by
        have h0 := LR.out
        rintro k (rfl | ⟨hl, o, ha⟩ | ⟨hl, o, ha⟩)
        · omega
        · have := HS.out.lt hl ha; omega
        · have := HX.out.lt hl ha; omega)
      obtain ⟨gv, hgv⟩ : ∃ gv, gv = wr.heap.size := ⟨_, rfl⟩
      rw [hw2, ← hgv]
      rw [← hgv] at NH LR LR2 HNB
      clear hw2 b12 HU c0 c1 c2 c3 c4 cf hgv hlt
      gi_wp2
      refine wpIn_range_sep (gf := 189) rfl enters_names (names_seq V m gv (by omega) (by omega)) (fun U hU => NH.out.same hU) (fun k hk => NH.out.lt hk) rfl
        (fun pre C W => C = (fun k => k = w.heap.size + 1 + 1) ∧ W.heap[w.heap.size + 1 + 1]? = some (.cells #[.bool false] 4) ∧ pre.any (hB L 3) = false)
        (fun c pre C W => c = .ret ∧ C = (fun k => k = w.heap.size + 1 + 1) ∧ W.heap[w.heap.size + 1 + 1]? = some (.cells #[.bool true] 4) ∧ pre.any (hB L 3) = true)
        ?loc ?locx (fun k => k = w.heap.size + 1 + 1) (fun k hk => HNB.out k hk) (fun k hk => by rw [hk]; have := LR.out; have := LR2.out; omega) ⟨rfl, U2.out.res, rfl⟩
        (fun x => { tmps := #[.map (some b), .agg #[.slice V.rq.a m.rq.length V.rq.cap, .slice V.im.a m.im.length V.im.cap, .slice V.ep.a m.ep.length V.ep.cap, .slice V.st.a m.st.length V.st.cap, .slice V.ex.a m.ex.length V.ex.cap], .pointer (some ⟨w.heap.size, 0, none⟩), .pointer (some ⟨w.heap.size + 1, 0, none⟩), .pointer (some ⟨w.heap.size + 1 + 1, 0, none⟩), undef, u6, .string x, .pointer (some ⟨w.heap.size + 1, 2, none⟩), .slice V.ep.a m.ep.length V.ep.cap, .int .i64 m.ep.length, .int .i64 m.ep.length, .bool false, u13, u14, u15, u16, u17, u18, u19, u20, u21, u22, u23, u24, .agg #[.slice V.rq.a m.rq.length V.rq.cap, .slice V.im.a m.im.length V.im.cap, .slice V.ep.a m.ep.length V.ep.cap, .slice V.st.a m.st.length V.st.cap, .slice V.ex.a m.ex.length V.ex.cap], .func (.func 189) #[] #[.pointer (some ⟨gv, 0, none⟩)], .string x, undef, undef, undef], defers := [] }) ?assign ?body ?done ?stop
      case loc =>
        rintro pre C W W' ⟨rfl, h1, h2⟩ hs
        exact ⟨rfl, (hs _ rfl).trans h1, h2⟩
      case locx =>
        rintro c pre C W W' ⟨h0, rfl, h1, h2⟩ hs
        exact ⟨h0, rfl, (hs _ rfl).trans h1, h2⟩
      case assign =>
        intro l m' x W K hK
        gi_wp2
        exact hK
      case body =>
        rintro l m' pre x rest C1 W hx hfr ⟨rfl, hres, hno⟩
        have hg : W.heap[w.heap.size]? = some (.cells #[.map (some b)] 147) := (hfr.same w.heap.size (by have := LR.out; have := LR2.out; omega) (by omega)).trans U2.out.own
        have hcn : CntW W b L := U2.out.cnt.kept (hfr.same b U2.out.cnt.lt (by have := LB.out; omega))
        have hc := Boxed.cell hg
        have hxs : x.size ≤ maxLen := by
          have hm : x ∈ nmV m := by rw [hx]; simp
          rcases List.mem_append.1 hm with hm | hm
          · obtain ⟨y, hy, rfl⟩ := List.mem_map.1 hm
            exact HN.out.2.1 y (List.mem_filter.1 hy).1
          · obtain ⟨y, hy, rfl⟩ := List.mem_map.1 hm
            exact HN.out.2.2.2 y (List.mem_filter.1 hy).1
        have hlt0 : ∀ k, k = w.heap.size + 1 + 1 → k < W.heap.size := hfr.lt
        clear hx hg
        gi_wp2
        refine wide_callR (has_any b L 3 x W hcn (roleN (by decide) (by decide) hxs)) ?_
        rintro e W1 ⟨rfl, hw⟩
        rw [hw]
        clear hw W1
        obtain ⟨v, hv⟩ : ∃ v, v = decide (0 < cnt L (3, x)) := ⟨_, rfl⟩
        have HV := hidI hv
        rw [← hv]
        clear hv
        have hap : (pre ++ [x]).any (hB L 3) = v := by rw [List.any_append, hno, List.any_cons, hB, ← HV.out]; simp
        cases v with
        | true =>
          have hz := Boxed.cell hres
          have hzf := Boxed.frozen hres
          have hq : (W.setCell ⟨w.heap.size + 1 + 1, 0, none⟩ (.bool true)).heap[w.heap.size + 1 + 1]? = some (.cells #[.bool true] 4) := by
            rw [qcell (i := 0) (u := .bool true) hres]
            rfl
          gi_wp2
          exact ⟨_, (Hd.refl hlt0).stored (p := ⟨w.heap.size + 1 + 1, 0, none⟩) rfl (.bool true), rfl, rfl, hq, hap⟩
        | false =>
          gi_wp2
          exact ⟨_, Hd.refl hlt0, rfl, hres, hap⟩
      case done =>
        rintro D C1 W hD hfr hnD ⟨rfl, hres, hno⟩ hK
        have hz := Boxed.cell hres
        have hzf := Boxed.frozen hres
        have hq : (W.setCell ⟨w.heap.size + 1 + 1, 0, none⟩ (.bool false)).heap[w.heap.size + 1 + 1]? = some (.cells #[.bool false] 4) := by
          rw [qcell (i := 0) (u := .bool false) hres]
          rfl
        have HR : Hid ((m.ep.any (seI L) || (m.st.any (ssI L) || m.ex.any (sxI L))) = false) := hidI (by rw [HNO.out, Bool.false_or]; exact ANS.out.symm.trans hno)
        have hlt0 : ∀ k, k = w.heap.size + 1 + 1 → k < W.heap.size := hfr.lt
        have fr4 := hfr.stored (p := ⟨w.heap.size + 1 + 1, 0, none⟩) rfl (.bool false)
        clear hno
        gi_wp2
        have hK4 := (Below.heap_setCell W ⟨w.heap.size + 1 + 1, 0, none⟩ (.bool false) D hnD).trans hK
        refine ⟨by simp, .inl ⟨_, _, rfl, run_takeDeferred hK4, ?_⟩⟩
        exact ⟨_, results_one rfl _ _ rfl (load_flag ((World.putObj_heap_other (fun h => hnD h.symm)).trans hq)), by rw [HR.out], U2.out.bel.trans ((fr4.put hD _).old U2.out.bel.size (by rintro k h; omega))⟩
      case stop =>
        rintro D c pre C1 W hD hpre hfr hnD ⟨rfl, rfl, hres, hyes⟩ hK
        have HR : Hid ((m.ep.any (seI L) || (m.st.any (ssI L) || m.ex.any (sxI L))) = true) := hidI (by
          rw [HNO.out, Bool.false_or]
          refine ANS.out.symm.trans ?_
          obtain ⟨t, ht⟩ := hpre
          rw [← ht, List.any_append, hyes, Bool.true_or])
        gi_wp2
        refine ⟨by simp, .inl ⟨_, _, rfl, run_takeDeferred hK, ?_⟩⟩
        exact ⟨_, results_one rfl _ _ rfl (load_flag ((World.putObj_heap_other (fun h => hnD h.symm)).trans hres)), by rw [HR.out], U2.out.bel.trans ((hfr.put hD _).old U2.out.bel.size (by rintro k h; omega))⟩
end Go.Proofs.Ytdbpknmoacjodaa
namespace Go.Proofs.Ytdbpknmoacjodaa
open Go.RowKit Go.PlainAid Go.Sort

set_option maxRecDepth 100000 in
set_option maxHeartbeats 6400000 in
theorem early_impl (V : Sv) (m : Md) (scr : Bool) (w : World) (hI : RowAt w V.im.a imL 3 m.im) (hE : RowAt w V.ep.a epL 4 m.ep) (hS : RowAt w V.st.a smL 3 m.st) (hX : RowAt w V.ex.a exL 6 m.ex) (lI : m.im.length ≤ 10000) (lE : m.ep.length ≤ 10000) (lS : m.st.length ≤ 10000) (lX : m.ex.length ≤ 10000) (hN : NameOk m) (hF : FairS m.st) :
    Calls Try.prog 40 #[modD V m, .bool scr] w fun e w' => e = .returned (.int .i64 (earlyS m)) ∧ Below w.heap.size w w' := by
  have HB0 : Hid (Below w.heap.size w (w.alloc (.cells #[.slice V.rq.a m.rq.length V.rq.cap, .slice V.im.a m.im.length V.im.cap, .slice V.ep.a m.ep.length V.ep.cap, .slice V.st.a m.st.length V.st.cap, .slice V.ex.a m.ex.length V.ex.cap] 37))) := (Below.refl _ _).alloc (Nat.le_refl _) _
  have BOX := hidI (heap_alloc_new w (.cells #[.slice V.rq.a m.rq.length V.rq.cap, .slice V.im.a m.im.length V.im.cap, .slice V.ep.a m.ep.length V.ep.cap, .slice V.st.a m.st.length V.st.cap, .slice V.ex.a m.ex.length V.ex.cap] 37))
  have HS := hidI (alloc_size w (.cells #[.slice V.rq.a m.rq.length V.rq.cap, .slice V.im.a m.im.length V.im.cap, .slice V.ep.a m.ep.length V.ep.cap, .slice V.st.a m.st.length V.st.cap, .slice V.ex.a m.ex.length V.ex.cap] 37))
  have RI := hidI (hI.later HB0.out)
  have RE := hidI (hE.later HB0.out)
  have RS := hidI (hS.later HB0.out)
  have RX := hidI (hX.later HB0.out)
  have HN := hidI hN
  have HF := hidI hF
  clear hI hE hS hX hN hF
  unfold modD
  go_enter Try.func40, Try.ntmps40
  go_wp2_with fail
  refine (standingsOf_any V m _ RI.out RE.out RS.out lI lE lS HN.out).mono ?_
  obtain ⟨W0, hW0⟩ : ∃ W0, W0 = w.alloc (.cells #[.slice V.rq.a m.rq.length V.rq.cap, .slice V.im.a m.im.length V.im.cap, .slice V.ep.a m.ep.length V.ep.cap, .slice V.st.a m.st.length V.st.cap, .slice V.ex.a m.ex.length V.ex.cap] 37) := ⟨_, rfl⟩
  rw [← hW0] at BOX HB0 HS RI RE RS RX ⊢
  clear hW0
  rintro e W1 ⟨b, rfl, hcw, hb1, _⟩
  have CW1 := hidI hcw
  have B1 := hidI hb1
  clear hcw hb1
  obtain ⟨L, hL⟩ : ∃ L, L = keysI m := ⟨_, rfl⟩
  have HL := hidI hL
  rw [← hL] at CW1
  clear hL
  go_wp2_with fail
  refine (hasTwice_any b L 1 _ CW1.out).mono ?_
  rintro e W2 ⟨⟨t1, rfl, ht1⟩, hb2⟩
  have T1 : Hid (t1 = twB (declS m)) := by
    show _ = _
    rw [HL.out, tw1 HF.out] at ht1
    exact Bool.eq_iff_iff.2 ht1
  have B2 := hidI (B1.out.trans (hb2.mono B1.out.size))
  have CW2 := hidI (CW1.out.kept (hb2.block _ CW1.out.lt))
  clear ht1 hb2 B1 CW1
  cases t1 with
  | true =>
    have HV : Hid (earlyS m = 1) := by show _ = _; rw [earlyS, ← T1.out]; rfl
    go_wp2
    go_ret
    exact ⟨ret_int HV.out.symm, HB0.out.trans (B2.out.mono (by rw [HS.out]; omega))⟩
  | false =>
    go_wp2_with fail
    refine (hasTwice_any b L 2 _ CW2.out).mono ?_
    rintro e W3 ⟨⟨t2, rfl, ht2⟩, hb3⟩
    have T2 : Hid (t2 = twB (epN m.ep)) := by
      show _ = _
      rw [HL.out, tw2] at ht2
      exact Bool.eq_iff_iff.2 ht2
    have B3 := hidI (B2.out.trans (hb3.mono B2.out.size))
    have CW3 := hidI (CW2.out.kept (hb3.block _ CW2.out.lt))
    clear ht2 hb3 B2 CW2
    cases t2 with
    | true =>
      have HV : Hid (earlyS m = 2) := by show _ = _; rw [earlyS, ← T1.out, ← T2.out]; rfl
      go_wp2
      go_ret
      exact ⟨ret_int HV.out.symm, HB0.out.trans (B3.out.mono (by rw [HS.out]; omega))⟩
    | false =>
      obtain ⟨c0, c1, c2, c3, c4, cf⟩ := five_of ((B3.out.block w.heap.size (by rw [HS.out]; omega)).trans BOX.out)
      go_wp2_with fail
      refine (hasUnbound_any b L V.ep.a V.ep.cap m.ep _ CW3.out (RE.out.later B3.out) lE (fun x hx => (HN.out.2.2.1 x hx).2)).mono ?_
      rintro e W4 ⟨rfl, hb4⟩
      have U : Hid (m.ep.any (unI L) = unB (declS m) m.ep) := by show _ = _; rw [HL.out]; exact un_same HF.out
      rw [U.out]
      have B4 := hidI (B3.out.trans (hb4.mono B3.out.size))
      have CW4 := hidI (CW3.out.kept (hb4.block _ CW3.out.lt))
      clear hb4 B3 CW3 U c0 c1 c2 c3 c4 cf
      cases hu : unB (declS m) m.ep with
      | true =>
        have HV : Hid (earlyS m = 3) := by show _ = _; rw [earlyS, ← T1.out, ← T2.out, hu]; rfl
        go_wp2
        go_ret
        exact ⟨ret_int HV.out.symm, HB0.out.trans (B4.out.mono (by rw [HS.out]; omega))⟩
      | false =>
        obtain ⟨c0, c1, c2, c3, c4, cf⟩ := five_of ((B4.out.block w.heap.size (by rw [HS.out]; omega)).trans BOX.out)
        go_wp2_with fail
        refine (hasSpace_any b L V m _ CW4.out (RE.out.later B4.out) (RS.out.later B4.out) (RX.out.later B4.out) lE lS lX HN.out).mono ?_
        rintro e W5 ⟨rfl, hb5⟩
        have U : Hid ((m.ep.any (seI L) || (m.st.any (ssI L) || m.ex.any (sxI L))) = (seB m.im m.ep || sxB m.im m.ex || ssB m.im m.st)) := by show _ = _; rw [HL.out]; exact sp_same T1.out.symm
        rw [U.out]
        have B5 := hidI (B4.out.trans (hb5.mono B4.out.size))
        have CW5 := hidI (CW4.out.kept (hb5.block _ CW4.out.lt))
        clear hb5 B4 CW4 U c0 c1 c2 c3 c4 cf
        cases hs : (seB m.im m.ep || sxB m.im m.ex || ssB m.im m.st) with
        | true =>
          have HV : Hid (earlyS m = 4) := by show _ = _; rw [earlyS, ← T1.out, ← T2.out, hu, hs]; rfl
          go_wp2
          go_ret
          exact ⟨ret_int HV.out.symm, HB0.out.trans (B5.out.mono (by rw [HS.out]; omega))⟩
        | false =>
          obtain ⟨c0, c1, c2, c3, c4, cf⟩ := five_of ((B5.out.block w.heap.size (by rw [HS.out]; omega)).trans BOX.out)
          go_wp2_with fail
          refine (hasMember_any b L V.ex.a V.ex.cap m.ex _ CW5.out (RX.out.later B5.out) lX HN.out.2.2.2).mono ?_
          rintro e W6 ⟨rfl, hb6⟩
          have U : Hid (m.ex.any (mxI L) = mxB m.im m.ex) := by show _ = _; rw [HL.out]; exact mx_same T1.out.symm
          rw [U.out]
          have B6 := hidI (B5.out.trans (hb6.mono B5.out.size))
          clear hb6 B5 CW5 U c0 c1 c2 c3 c4 cf
          cases hm : mxB m.im m.ex with
          | true =>
            have HV : Hid (earlyS m = 5) := by show _ = _; rw [earlyS, ← T1.out, ← T2.out, hu, hs, hm]; rfl
            go_wp2
            go_ret
            exact ⟨ret_int HV.out.symm, HB0.out.trans (B6.out.mono (by rw [HS.out]; omega))⟩
          | false =>
            have HV : Hid (earlyS m = 0) := by show _ = _; rw [earlyS, ← T1.out, ← T2.out, hu, hs, hm]; rfl
            go_wp2
            go_ret
            exact ⟨ret_int HV.out.symm, HB0.out.trans (B6.out.mono (by rw [HS.out]; omega))⟩
end Go.Proofs.Ytdbpknmoacjodaa
namespace Go.Proofs.Ytdbpknmoacjodaa
open Go.RowKit Go.PlainAid Go.Sort

def SameOut (P : Prop) (e : Ending) : Prop := ∃ b, e = .returned (.bool b) ∧ (b = true ↔ P)
theorem rowsomeE {α : Type} {l : List α} {j : Nat} (h : j < l.length) : ∃ x, l[j]? = some x := ⟨_, List.getElem?_eq_getElem h⟩
theorem take_more {α : Type} {l1 l2 : List α} {j : Nat} {x : α} (h : l1.take j = l2.take j) (h1 : l1[j]? = some x) (h2 : l2[j]? = some x) : l1.take (j + 1) = l2.take (j + 1) := by
  obtain ⟨a, rfl⟩ := List.getElem?_eq_some_iff.1 h1
  obtain ⟨b, hb⟩ := List.getElem?_eq_some_iff.1 h2
  rw [List.take_succ_eq_append_getElem a, List.take_succ_eq_append_getElem b, h, hb]
theorem take_all {α : Type} {l1 l2 : List α} (hl : l1.length = l2.length) (h : l1.take l1.length = l2.take l1.length) : l1 = l2 := by
  rw [List.take_length, hl, List.take_length] at h
  exact h
theorem bytes_eq {a b : ByteArray} (h : (a.toList == b.toList) = true) : a = b := (toList_eq_iff a b).1 h
def eqStr (x y : ByteArray) : Bool := x.toList == y.toList
theorem eqStr_iff {x y : ByteArray} : eqStr x y = true ↔ x = y := ⟨fun h => bytes_eq h, fun h => by rw [h]; exact beq_self_eq_true _⟩
def eqIm (x y : Im) : Bool := x.spec.toList == y.spec.toList && x.first.toList == y.first.toList && x.loc.toList == y.loc.toList
theorem eqIm_iff {x y : Im} : eqIm x y = true ↔ x = y := by
  constructor
  · intro h
    unfold eqIm at h
    simp only [Bool.and_eq_true] at h
    obtain ⟨⟨h0, h1⟩, h2⟩ := h
    cases x
    cases y
    simp only at h0 h1 h2
    congr 1 <;> first | (apply bytes_eq; assumption) | (apply eq_of_beq; assumption)
  · intro h
    rw [h]
    simp [eqIm]
def eqEp (x y : Ep) : Bool := x.kind == y.kind && x.name.toList == y.name.toList && x.loc.toList == y.loc.toList && x.spec.toList == y.spec.toList
theorem eqEp_iff {x y : Ep} : eqEp x y = true ↔ x = y := by
  constructor
  · intro h
    unfold eqEp at h
    simp only [Bool.and_eq_true] at h
    obtain ⟨⟨⟨h0, h1⟩, h2⟩, h3⟩ := h
    cases x
    cases y
    simp only at h0 h1 h2 h3
    congr 1 <;> first | (apply bytes_eq; assumption) | (apply eq_of_beq; assumption)
  · intro h
    rw [h]
    simp [eqEp]
def eqSm (x y : Sm) : Bool := x.kind == y.kind && x.name.toList == y.name.toList && x.expr == y.expr
theorem eqSm_iff {x y : Sm} : eqSm x y = true ↔ x = y := by
  constructor
  · intro h
    unfold eqSm at h
    simp only [Bool.and_eq_true] at h
    obtain ⟨⟨h0, h1⟩, h2⟩ := h
    cases x
    cases y
    simp only at h0 h1 h2
    congr 1 <;> first | (apply bytes_eq; assumption) | (apply eq_of_beq; assumption)
  · intro h
    rw [h]
    simp [eqSm]
def eqEx (x y : Ex) : Bool := x.kind == y.kind && x.num == y.num && x.name.toList == y.name.toList && x.field.toList == y.field.toList && x.l == y.l && x.r == y.r
theorem eqEx_iff {x y : Ex} : eqEx x y = true ↔ x = y := by
  constructor
  · intro h
    unfold eqEx at h
    simp only [Bool.and_eq_true] at h
    obtain ⟨⟨⟨⟨⟨h0, h1⟩, h2⟩, h3⟩, h4⟩, h5⟩ := h
    cases x
    cases y
    simp only at h0 h1 h2 h3 h4 h5
    congr 1 <;> first | (apply bytes_eq; assumption) | (apply eq_of_beq; assumption)
  · intro h
    rw [h]
    simp [eqEx]
end Go.Proofs.Ytdbpknmoacjodaa
namespace Go.Proofs.Ytdbpknmoacjodaa
open Go.RowKit Go.PlainAid Go.Sort

theorem map_flat (l : List ByteArray) : l.map Value.string = l.flatMap (fun x => [Value.string x]) := by
  induction l with
  | nil => rfl
  | cons x l ih => rw [List.map_cons, List.flatMap_cons, ih]; rfl
def TwoM (w0 : World) (b1 b2 : Nat) (S1 S2 : Sv) (m1 m2 : Md) (w : World) : Prop :=
  w.heap[w0.heap.size]? = some (.cells #[.slice S1.rq.a m1.rq.length S1.rq.cap, .slice S1.im.a m1.im.length S1.im.cap, .slice S1.ep.a m1.ep.length S1.ep.cap, .slice S1.st.a m1.st.length S1.st.cap, .slice S1.ex.a m1.ex.length S1.ex.cap] 37 (0, 0)) ∧ w.heap[w0.heap.size + 1]? = some (.cells #[.slice S2.rq.a m2.rq.length S2.rq.cap, .slice S2.im.a m2.im.length S2.im.cap, .slice S2.ep.a m2.ep.length S2.ep.cap, .slice S2.st.a m2.st.length S2.st.cap, .slice S2.ex.a m2.ex.length S2.ex.cap] 37 (0, 0)) ∧ OwnMd w b1 S1 m1 ∧ OwnMd w b2 S2 m2 ∧ Below w0.heap.size w0 w
theorem TwoM.later {w0 w w' : World} {b1 b2 : Nat} {S1 S2 : Sv} {m1 m2 : Md} (h : TwoM w0 b1 b2 S1 S2 m1 m2 w) (hb : Below w.heap.size w w') : TwoM w0 b1 b2 S1 S2 m1 m2 w' :=
  ⟨(hb.block _ (Array.getElem?_eq_some_iff.1 h.1).1).trans h.1, (hb.block _ (Array.getElem?_eq_some_iff.1 h.2.1).1).trans h.2.1, h.2.2.1.later hb, h.2.2.2.1.later hb, h.2.2.2.2.trans (hb.mono h.2.2.2.2.size)⟩
theorem two_start (w : World) (b1 b2 : Nat) (S1 S2 : Sv) (m1 m2 : Md) (h1 : OwnMd w b1 S1 m1) (h2 : OwnMd w b2 S2 m2) : TwoM w b1 b2 S1 S2 m1 m2 ((w.alloc (.cells #[.slice S1.rq.a m1.rq.length S1.rq.cap, .slice S1.im.a m1.im.length S1.im.cap, .slice S1.ep.a m1.ep.length S1.ep.cap, .slice S1.st.a m1.st.length S1.st.cap, .slice S1.ex.a m1.ex.length S1.ex.cap] 37)).alloc (.cells #[.slice S2.rq.a m2.rq.length S2.rq.cap, .slice S2.im.a m2.im.length S2.im.cap, .slice S2.ep.a m2.ep.length S2.ep.cap, .slice S2.st.a m2.st.length S2.st.cap, .slice S2.ex.a m2.ex.length S2.ex.cap] 37)) := by
  have a1 : Below w.heap.size w (w.alloc (.cells #[.slice S1.rq.a m1.rq.length S1.rq.cap, .slice S1.im.a m1.im.length S1.im.cap, .slice S1.ep.a m1.ep.length S1.ep.cap, .slice S1.st.a m1.st.length S1.st.cap, .slice S1.ex.a m1.ex.length S1.ex.cap] 37)) := (Below.refl _ _).alloc (Nat.le_refl _) _
  have a2 : Below (w.alloc (.cells #[.slice S1.rq.a m1.rq.length S1.rq.cap, .slice S1.im.a m1.im.length S1.im.cap, .slice S1.ep.a m1.ep.length S1.ep.cap, .slice S1.st.a m1.st.length S1.st.cap, .slice S1.ex.a m1.ex.length S1.ex.cap] 37)).heap.size (w.alloc (.cells #[.slice S1.rq.a m1.rq.length S1.rq.cap, .slice S1.im.a m1.im.length S1.im.cap, .slice S1.ep.a m1.ep.length S1.ep.cap, .slice S1.st.a m1.st.length S1.st.cap, .slice S1.ex.a m1.ex.length S1.ex.cap] 37)) ((w.alloc (.cells #[.slice S1.rq.a m1.rq.length S1.rq.cap, .slice S1.im.a m1.im.length S1.im.cap, .slice S1.ep.a m1.ep.length S1.ep.cap, .slice S1.st.a m1.st.length S1.st.cap, .slice S1.ex.a m1.ex.length S1.ex.cap] 37)).alloc (.cells #[.slice S2.rq.a m2.rq.length S2.rq.cap, .slice S2.im.a m2.im.length S2.im.cap, .slice S2.ep.a m2.ep.length S2.ep.cap, .slice S2.st.a m2.st.length S2.st.cap, .slice S2.ex.a m2.ex.length S2.ex.cap] 37)) := (Below.refl _ _).alloc (Nat.le_refl _) _
  refine ⟨(a2.block _ (by rw [alloc_size]; omega)).trans (heap_alloc_new w _), ?_, (h1.later a1).later a2, (h2.later a1).later a2, a1.trans (a2.mono (by rw [alloc_size]; omega))⟩
  have := heap_alloc_new (w.alloc (.cells #[.slice S1.rq.a m1.rq.length S1.rq.cap, .slice S1.im.a m1.im.length S1.im.cap, .slice S1.ep.a m1.ep.length S1.ep.cap, .slice S1.st.a m1.st.length S1.st.cap, .slice S1.ex.a m1.ex.length S1.ex.cap] 37)) (.cells #[.slice S2.rq.a m2.rq.length S2.rq.cap, .slice S2.im.a m2.im.length S2.im.cap, .slice S2.ep.a m2.ep.length S2.ep.cap, .slice S2.st.a m2.st.length S2.st.cap, .slice S2.ex.a m2.ex.length S2.ex.cap] 37)
  rw [alloc_size] at this
  exact this
def MdFew (m : Md) : Prop := m.rq.length ≤ 4294967296 ∧ m.im.length ≤ 4294967296 ∧ m.ep.length ≤ 4294967296 ∧ m.st.length ≤ 4294967296 ∧ m.ex.length ≤ 4294967296
theorem md_eq {a b : Md} (h1 : a.rq = b.rq) (h2 : a.im = b.im) (h3 : a.ep = b.ep) (h4 : a.st = b.st) (h5 : a.ex = b.ex) : a = b := by
  cases a
  cases b
  simp only at h1 h2 h3 h4 h5
  rw [h1, h2, h3, h4, h5]
end Go.Proofs.Ytdbpknmoacjodaa
namespace Go.Proofs.Ytdbpknmoacjodaa
open Go.RowKit Go.PlainAid Go.Sort

def PrOf (T : ByteArray) (m : Md) (t : ByteArray) : Prop := (Tree m ∧ t = T) ∨ (¬ Tree m ∧ t = sNone)
theorem PrintOut.form {T : ByteArray} {m : Md} {e : Ending} (h : PrintOut T m e) : ∃ t, PrOf T m t ∧ e = .returned (.string t) := by
  rcases h with ⟨h1, h2⟩ | ⟨h1, h2⟩
  · exact ⟨T, .inl ⟨h1, rfl⟩, h2⟩
  · exact ⟨sNone, .inr ⟨h1, rfl⟩, h2⟩
theorem PrOf.size {T t : ByteArray} {m : Md} {n : Nat} (h : PrOf T m t) (hs : Tree m → T.size ≤ n) : t.size ≤ n := by
  rcases h with ⟨h1, rfl⟩ | ⟨_, rfl⟩
  · exact hs h1
  · exact Nat.zero_le _
def OkOf (t : ByteArray) (scr : Bool) (m : Md) : Prop := ∃ q, ParseR t scr (.ok q) ∧ mdOf q = m
def OkOut (T : ByteArray) (m : Md) (scr : Bool) (e : Ending) : Prop := ∃ t, PrOf T m t ∧ SameOut (OkOf t scr m) e
theorem ok_bad {t : ByteArray} {scr : Bool} {m : Md} {p : Nat} (h : ParseR t scr (.error p)) : ¬ OkOf t scr m := by
  rintro ⟨q, hq, _⟩
  cases parseR_one h hq
theorem ok_iff {t : ByteArray} {scr : Bool} {m n : Md} {q : PS} (h : ParseR t scr (.ok q)) (hn : n = mdOf q) : OkOf t scr m ↔ n = m := by
  constructor
  · rintro ⟨q', hq, he⟩
    cases parseR_one h hq
    rw [hn]
    exact he
  · intro e
    exact ⟨q, h, by rw [← hn]; exact e⟩
theorem ParseOut.md {s : ByteArray} {scr : Bool} {w w' : World} {e : Ending} (h : ParseOut s scr w e w') :
    (∃ (q : PS) (S : Sv) (n : Md), ParseR s scr (.ok q) ∧ n = mdOf q ∧ e = .returned (.tuple #[modD S n, .int .i64 (-1)]) ∧ OwnMd w' w.heap.size S n ∧ MdFew n) ∨ ∃ p : Nat, ParseR s scr (.error p) ∧ e = .returned (.tuple #[.agg #[.slice none 0 0, .slice none 0 0, .slice none 0 0, .slice none 0 0, .slice none 0 0], .int .i64 p]) := by
  obtain ⟨y, hy, hm⟩ := h
  cases y with
  | ok q =>
    obtain ⟨S, he, ho⟩ := hm
    refine .inl ⟨q, S, mdOf q, hy, rfl, he, ho.md, ?_⟩
    have hi := ho.inv
    have hl : (mdOf q).ep.length = q.ep.length + q.la.length := by show (q.ep ++ q.la).length = _; rw [List.length_append]
    refine ⟨?_, ?_, by rw [hl]; omega, ?_, ?_⟩
    · show q.rq.length ≤ _; omega
    · show q.im.length ≤ _; omega
    · show q.st.length ≤ _; omega
    · show q.ex.length ≤ _; omega
  | error p => exact .inr ⟨p, hy, hm⟩
theorem stmt_same {k : Int} {n e : ByteArray} (h : n.toList = dN → k = 1) : stmtTI k n e = stmtT k n e := by
  unfold stmtTI
  split
  · next hn =>
    have e1 := eq_of_beq hn
    rw [h e1, stmtT, if_pos (by decide), if_pos hn]
  · rfl
theorem acc_congr {α : Type} {f g : α → ByteArray} (l : List α) : ∀ t, (∀ x ∈ l, f x = g x) → acc f l t = acc g l t := by
  induction l with
  | nil => intro t _; rfl
  | cons x l ih =>
    intro t h
    show acc f l (t ++ f x) = acc g l (t ++ g x)
    rw [h x (List.mem_cons_self ..)]
    exact ih _ fun y hy => h y (List.mem_cons_of_mem _ hy)
theorem text_same {m : Md} (h : FairS m.st) : textI m = textS m := acc_congr _ _ fun s hs => stmt_same (h s hs)
theorem ok_same {m : Md} {scr : Bool} {t1 t2 : ByteArray} (h1 : PrOf (textS m) m t1) (h2 : PrOf (textI m) m t2) : OkOf t1 scr m ↔ OkOf t2 scr m := by
  by_cases hf : FairS m.st
  · have : t1 = t2 := by
      rw [text_same hf] at h2
      rcases h1 with ⟨a, rfl⟩ | ⟨a, rfl⟩ <;> rcases h2 with ⟨b, rfl⟩ | ⟨b, rfl⟩
      · rfl
      · exact absurd a b
      · exact absurd b a
      · rfl
    rw [this]
  · have no : ∀ t, ¬ OkOf t scr m := by
      rintro t ⟨q, hq, he⟩
      have := parse_fair hq
      rw [← he] at hf
      exact hf this
    exact ⟨fun h => absurd h (no _), fun h => absurd h (no _)⟩
end Go.Proofs.Ytdbpknmoacjodaa
namespace Go.Proofs.Ytdbpknmoacjodaa
open Go.RowKit Go.PlainAid Go.Sort

set_option maxRecDepth 100000 in
set_option maxHeartbeats 12800000 in
theorem l4Same_with (hneIm : ∀ (x y : Im) (W : World), Sem.run Try.prog (binOp .neq 154 (.agg #[.string x.spec, .string x.first, .string x.loc]) (.agg #[.string y.spec, .string y.first, .string y.loc])) W = .ok (.bool (!eqIm x y)) W) (hgdIm : ∀ (op : BinOp) (a b : Operand) (x y : Im) (W : World), Sem.run Try.prog (eqGuard op 154 a b (.agg #[.string x.spec, .string x.first, .string x.loc]) (.agg #[.string y.spec, .string y.first, .string y.loc])) W = .ok () W) (hneEp : ∀ (x y : Ep) (W : World), Sem.run Try.prog (binOp .neq 79 (.agg #[.int .i64 x.kind, .string x.name, .string x.loc, .string x.spec]) (.agg #[.int .i64 y.kind, .string y.name, .string y.loc, .string y.spec])) W = .ok (.bool (!eqEp x y)) W) (hgdEp : ∀ (op : BinOp) (a b : Operand) (x y : Ep) (W : World), Sem.run Try.prog (eqGuard op 79 a b (.agg #[.int .i64 x.kind, .string x.name, .string x.loc, .string x.spec]) (.agg #[.int .i64 y.kind, .string y.name, .string y.loc, .string y.spec])) W = .ok () W) (hneSm : ∀ (x y : Sm) (W : World), Sem.run Try.prog (binOp .neq 159 (.agg #[.int .i64 x.kind, .string x.name, .int .i64 x.expr]) (.agg #[.int .i64 y.kind, .string y.name, .int .i64 y.expr])) W = .ok (.bool (!eqSm x y)) W) (hgdSm : ∀ (op : BinOp) (a b : Operand) (x y : Sm) (W : World), Sem.run Try.prog (eqGuard op 159 a b (.agg #[.int .i64 x.kind, .string x.name, .int .i64 x.expr]) (.agg #[.int .i64 y.kind, .string y.name, .int .i64 y.expr])) W = .ok () W) (hneEx : ∀ (x y : Ex) (W : World), Sem.run Try.prog (binOp .neq 96 (.agg #[.int .i64 x.kind, .int .i64 x.num, .string x.name, .string x.field, .int .i64 x.l, .int .i64 x.r]) (.agg #[.int .i64 y.kind, .int .i64 y.num, .string y.name, .string y.field, .int .i64 y.l, .int .i64 y.r])) W = .ok (.bool (!eqEx x y)) W) (hgdEx : ∀ (op : BinOp) (a b : Operand) (x y : Ex) (W : World), Sem.run Try.prog (eqGuard op 96 a b (.agg #[.int .i64 x.kind, .int .i64 x.num, .string x.name, .string x.field, .int .i64 x.l, .int .i64 x.r]) (.agg #[.int .i64 y.kind, .int .i64 y.num, .string y.name, .string y.field, .int .i64 y.l, .int .i64 y.r])) W = .ok () W) (b1 b2 : Nat) (S1 S2 : Sv) (m1 m2 : Md) (w : World) (h1 : OwnMd w b1 S1 m1) (h2 : OwnMd w b2 S2 m2) (hf : MdFew m1) :
    Calls Try.prog 114 #[modD S1 m1, modD S2 m2] w fun e w' => SameOut (m1 = m2) e ∧ Below w.heap.size w w' := by
  have H1 := hidI h1
  have H2 := hidI h2
  obtain ⟨f1, f2, f3, f4, f5⟩ := hf
  clear h1 h2
  unfold modD
  go_enter Try.func114, Try.ntmps114
  go_upto_region 1 with fail
  refine world_anyI (R := TwoM w b1 b2 S1 S2 m1 m2) (two_start w b1 b2 S1 S2 m1 m2 H1.out H2.out) ?_
  clear H1 H2
  intro w0 h
  have T := hidI h
  clear h
  obtain ⟨c0, c1, c2, c3, c4, cf⟩ := five_of T.out.1
  obtain ⟨d0, d1, d2, d3, d4, df⟩ := five_of T.out.2.1
  by_cases q0 : (m1.rq.length : Int) = (m2.rq.length : Int)
  case neg =>
    go_wp2
    go_ret
    exact ⟨⟨false, rfl, ⟨fun k => (by cases k), fun k => absurd (by rw [k]) q0⟩⟩, T.out.2.2.2.2⟩
  by_cases q1 : (m1.im.length : Int) = (m2.im.length : Int)
  case neg =>
    go_wp2
    go_ret
    exact ⟨⟨false, rfl, ⟨fun k => (by cases k), fun k => absurd (by rw [k]) q1⟩⟩, T.out.2.2.2.2⟩
  by_cases q2 : (m1.ep.length : Int) = (m2.ep.length : Int)
  case neg =>
    go_wp2
    go_ret
    exact ⟨⟨false, rfl, ⟨fun k => (by cases k), fun k => absurd (by rw [k]) q2⟩⟩, T.out.2.2.2.2⟩
  by_cases q3 : (m1.st.length : Int) = (m2.st.length : Int)
  case neg =>
    go_wp2
    go_ret
    exact ⟨⟨false, rfl, ⟨fun k => (by cases k), fun k => absurd (by rw [k]) q3⟩⟩, T.out.2.2.2.2⟩
  by_cases q4 : (m1.ex.length : Int) = (m2.ex.length : Int)
  case neg =>
    go_wp2
    go_ret
    exact ⟨⟨false, rfl, ⟨fun k => (by cases k), fun k => absurd (by rw [k]) q4⟩⟩, T.out.2.2.2.2⟩
  go_wp2
  go_loopg [5] m1.rq.length (fun k i wr => ∃ j : Nat, i = .int .i64 j ∧ j + k = m1.rq.length ∧ m1.rq.take j = m2.rq.take j ∧ TwoM w b1 b2 S1 S2 m1 m2 wr)
  case atStart => exact ⟨0, rfl, by omega, rfl, T.out⟩
  case round =>
    obtain ⟨j, rfl, hj, ht, hT⟩ := hrel
    clear T c0 c1 c2 c3 c4 cf d0 d1 d2 d3 d4 df
    have T := hidI hT
    have HT := hidI ht
    clear hT ht
    obtain ⟨c0, c1, c2, c3, c4, cf⟩ := five_of T.out.1
    obtain ⟨d0, d1, d2, d3, d4, df⟩ := five_of T.out.2.1
    by_cases hlt : j < m1.rq.length
    · have hlti : (j : Int) < (m1.rq.length : Int) := by omega
      have hlt2 : (j : Int) < (m2.rq.length : Int) := by omega
      obtain ⟨x, hx⟩ := rowsomeE hlt
      obtain ⟨y, hy⟩ := rowsomeE (show j < m2.rq.length by omega)
      obtain ⟨g1, ga, h1⟩ := OwnR.elem (f := (fun x => [Value.string x])) (m := 1) (fun _ => rfl) (show OwnR wr b1 9 1 S1.rq m1.rq.length (m1.rq.flatMap (fun x => [Value.string x])) by rw [← map_flat]; exact T.out.2.2.1.rq) hx
      obtain ⟨g2, gb, h2⟩ := OwnR.elem (f := (fun x => [Value.string x])) (m := 1) (fun _ => rfl) (show OwnR wr b2 9 1 S2.rq m2.rq.length (m2.rq.flatMap (fun x => [Value.string x])) by rw [← map_flat]; exact T.out.2.2.2.1.rq) hy
      rw [ga] at c0
      rw [gb] at d0
      have C0 := hidI (h1 0 (by omega))
      have D0 := hidI (h2 0 (by omega))
      have HX := hidI hx
      have HY := hidI hy
      clear h1 h2 ga gb hx hy
      obtain ⟨j1, hj1⟩ : ∃ j1, j1 = j + 1 := ⟨_, rfl⟩
      have ej : (j : Int) + 1 = (j1 : Int) := by omega
      have HJ := hidI hj1
      clear hj1
      obtain ⟨b, hxy⟩ : ∃ b, eqStr x y = b := ⟨_, rfl⟩
      have hxz : (x.toList == y.toList) = b := hxy
      go_wp2
      have kc := cell_regrown c0
      have kd := cell_regrown d0
      have k0 := cell_regrown C0.out
      have v0 := cell_regrown D0.out
      simp only [Nat.add_zero, Nat.mul_one] at k0 v0
      refine wp_region_quiet_below (by kernel_rfl) (by kernel_rfl) ?_
      repeat (go_big_quiet_step (fail))
      refine wpQuiet_nil ?_
      intro w2 hw'
      obtain ⟨⟨dq, osq⟩, hw''⟩ := hw'
      have T2 : Hid (TwoM w b1 b2 S1 S2 m1 m2 w2) := by show TwoM _ _ _ _ _ _ _ _; rw [hw'']; exact T.out.later (below_regrown wr dq osq)
      clear hw'' kc kd c0 c1 c2 c3 c4 cf d0 d1 d2 d3 d4 df k0 v0 C0 D0
      cases b with
      | true =>
        go_wp2
        go_roundg (gk - 1)
        case rel => exact ⟨j1, rfl, by have := HJ.out; omega, by rw [HJ.out]; have e := eqStr_iff.1 hxy; exact take_more HT.out HX.out (by rw [e]; exact HY.out), T2.out⟩
        case measure => omega
      | false =>
        go_wp2
        go_ret
        exact ⟨⟨false, rfl, ⟨fun k => (by cases k), fun k => (by have e := HX.out; rw [k, HY.out] at e; cases e; rw [eqStr_iff.2 rfl] at hxy; cases hxy)⟩⟩, T2.out.2.2.2.2⟩
    · have hlti : ¬ (j : Int) < (m1.rq.length : Int) := by omega
      obtain rfl : j = m1.rq.length := by omega
      have A0 := hidI (take_all (by omega) HT.out)
      clear HT hlti hlt hj
      go_wp2
      go_loopg [6] m1.im.length (fun k i wr => ∃ j : Nat, i = .int .i64 j ∧ j + k = m1.im.length ∧ m1.im.take j = m2.im.take j ∧ TwoM w b1 b2 S1 S2 m1 m2 wr)
      case atStart => exact ⟨0, rfl, by omega, rfl, T.out⟩
      case round =>
        obtain ⟨j, rfl, hj, ht, hT⟩ := hrel
        clear T c0 c1 c2 c3 c4 cf d0 d1 d2 d3 d4 df
        have T := hidI hT
        have HT := hidI ht
        clear hT ht
        obtain ⟨c0, c1, c2, c3, c4, cf⟩ := five_of T.out.1
        obtain ⟨d0, d1, d2, d3, d4, df⟩ := five_of T.out.2.1
        by_cases hlt : j < m1.im.length
        · have hlti : (j : Int) < (m1.im.length : Int) := by omega
          have hlt2 : (j : Int) < (m2.im.length : Int) := by omega
          obtain ⟨x, hx⟩ := rowsomeE hlt
          obtain ⟨y, hy⟩ := rowsomeE (show j < m2.im.length by omega)
          obtain ⟨g1, ga, h1⟩ := OwnR.elem (f := imL) (m := 3) (fun _ => rfl) T.out.2.2.1.im hx
          obtain ⟨g2, gb, h2⟩ := OwnR.elem (f := imL) (m := 3) (fun _ => rfl) T.out.2.2.2.1.im hy
          rw [ga] at c1
          rw [gb] at d1
          have C0 := hidI (h1 0 (by omega))
          have D0 := hidI (h2 0 (by omega))
          have C1 := hidI (h1 1 (by omega))
          have D1 := hidI (h2 1 (by omega))
          have C2 := hidI (h1 2 (by omega))
          have D2 := hidI (h2 2 (by omega))
          have HX := hidI hx
          have HY := hidI hy
          clear h1 h2 ga gb hx hy
          obtain ⟨j1, hj1⟩ : ∃ j1, j1 = j + 1 := ⟨_, rfl⟩
          have ej : (j : Int) + 1 = (j1 : Int) := by omega
          have HJ := hidI hj1
          clear hj1
          obtain ⟨b, hxy⟩ : ∃ b, eqIm x y = b := ⟨_, rfl⟩
          have hn1 : ∀ W : World, Sem.run Try.prog (binOp .neq 154 (.agg #[.string x.spec, .string x.first, .string x.loc]) (.agg #[.string y.spec, .string y.first, .string y.loc])) W = .ok (.bool !b) W := fun W => by rw [hneIm, hxy]
          have hg1 : ∀ (op : BinOp) (a b : Operand) (W : World), Sem.run Try.prog (eqGuard op 154 a b (.agg #[.string x.spec, .string x.first, .string x.loc]) (.agg #[.string y.spec, .string y.first, .string y.loc])) W = .ok () W := fun op a b W => hgdIm op a b x y W
          go_wp2
          have kc := cell_regrown c1
          have kd := cell_regrown d1
          have k0 := cell_regrown C0.out
          have v0 := cell_regrown D0.out
          have k1 := cell_regrown C1.out
          have v1 := cell_regrown D1.out
          have k2 := cell_regrown C2.out
          have v2 := cell_regrown D2.out
          simp only [Nat.add_zero] at k0 v0
          refine wp_region_quiet_below (by kernel_rfl) (by kernel_rfl) ?_
          repeat (go_big_quiet_step (fail))
          refine wpQuiet_nil ?_
          intro w2 hw'
          obtain ⟨⟨dq, osq⟩, hw''⟩ := hw'
          have T2 : Hid (TwoM w b1 b2 S1 S2 m1 m2 w2) := by show TwoM _ _ _ _ _ _ _ _; rw [hw'']; exact T.out.later (below_regrown wr dq osq)
          clear hw'' kc kd c0 c1 c2 c3 c4 cf d0 d1 d2 d3 d4 df k0 v0 C0 D0 k1 v1 C1 D1 k2 v2 C2 D2
          cases b with
          | true =>
            go_wp2
            go_roundg (gk - 1)
            case rel => exact ⟨j1, rfl, by have := HJ.out; omega, by rw [HJ.out]; have e := eqIm_iff.1 hxy; exact take_more HT.out HX.out (by rw [e]; exact HY.out), T2.out⟩
            case measure => omega
          | false =>
            go_wp2
            go_ret
            exact ⟨⟨false, rfl, ⟨fun k => (by cases k), fun k => (by have e := HX.out; rw [k, HY.out] at e; cases e; rw [eqIm_iff.2 rfl] at hxy; cases hxy)⟩⟩, T2.out.2.2.2.2⟩
        · have hlti : ¬ (j : Int) < (m1.im.length : Int) := by omega
          obtain rfl : j = m1.im.length := by omega
          have A1 := hidI (take_all (by omega) HT.out)
          clear HT hlti hlt hj
          go_wp2
          go_loopg [7] m1.ep.length (fun k i wr => ∃ j : Nat, i = .int .i64 j ∧ j + k = m1.ep.length ∧ m1.ep.take j = m2.ep.take j ∧ TwoM w b1 b2 S1 S2 m1 m2 wr)
          case atStart => exact ⟨0, rfl, by omega, rfl, T.out⟩
          case round =>
            obtain ⟨j, rfl, hj, ht, hT⟩ := hrel
            clear T c0 c1 c2 c3 c4 cf d0 d1 d2 d3 d4 df
            have T := hidI hT
            have HT := hidI ht
            clear hT ht
            obtain ⟨c0, c1, c2, c3, c4, cf⟩ := five_of T.out.1
            obtain ⟨d0, d1, d2, d3, d4, df⟩ := five_of T.out.2.1
            by_cases hlt : j < m1.ep.length
            · have hlti : (j : Int) < (m1.ep.length : Int) := by omega
              have hlt2 : (j : Int) < (m2.ep.length : Int) := by omega
              obtain ⟨x, hx⟩ := rowsomeE hlt
              obtain ⟨y, hy⟩ := rowsomeE (show j < m2.ep.length by omega)
              obtain ⟨g1, ga, h1⟩ := OwnR.elem (f := epL) (m := 4) (fun _ => rfl) T.out.2.2.1.ep hx
              obtain ⟨g2, gb, h2⟩ := OwnR.elem (f := epL) (m := 4) (fun _ => rfl) T.out.2.2.2.1.ep hy
              rw [ga] at c2
              rw [gb] at d2
              have C0 := hidI (h1 0 (by omega))
              have D0 := hidI (h2 0 (by omega))
              have C1 := hidI (h1 1 (by omega))
              have D1 := hidI (h2 1 (by omega))
              have C2 := hidI (h1 2 (by omega))
              have D2 := hidI (h2 2 (by omega))
              have C3 := hidI (h1 3 (by omega))
              have D3 := hidI (h2 3 (by omega))
              have HX := hidI hx
              have HY := hidI hy
              clear h1 h2 ga gb hx hy
              obtain ⟨j1, hj1⟩ : ∃ j1, j1 = j + 1 := ⟨_, rfl⟩
              have ej : (j : Int) + 1 = (j1 : Int) := by omega
              have HJ := hidI hj1
              clear hj1
              obtain ⟨b, hxy⟩ : ∃ b, eqEp x y = b := ⟨_, rfl⟩
              have hn1 : ∀ W : World, Sem.run Try.prog (binOp .neq 79 (.agg #[.int .i64 x.kind, .string x.name, .string x.loc, .string x.spec]) (.agg #[.int .i64 y.kind, .string y.name, .string y.loc, .string y.spec])) W = .ok (.bool !b) W := fun W => by rw [hneEp, hxy]
              have hg1 : ∀ (op : BinOp) (a b : Operand) (W : World), Sem.run Try.prog (eqGuard op 79 a b (.agg #[.int .i64 x.kind, .string x.name, .string x.loc, .string x.spec]) (.agg #[.int .i64 y.kind, .string y.name, .string y.loc, .string y.spec])) W = .ok () W := fun op a b W => hgdEp op a b x y W
              go_wp2
              have kc := cell_regrown c2
              have kd := cell_regrown d2
              have k0 := cell_regrown C0.out
              have v0 := cell_regrown D0.out
              have k1 := cell_regrown C1.out
              have v1 := cell_regrown D1.out
              have k2 := cell_regrown C2.out
              have v2 := cell_regrown D2.out
              have k3 := cell_regrown C3.out
              have v3 := cell_regrown D3.out
              simp only [Nat.add_zero] at k0 v0
              refine wp_region_quiet_below (by kernel_rfl) (by kernel_rfl) ?_
              repeat (go_big_quiet_step (fail))
              refine wpQuiet_nil ?_
              intro w2 hw'
              obtain ⟨⟨dq, osq⟩, hw''⟩ := hw'
              have T2 : Hid (TwoM w b1 b2 S1 S2 m1 m2 w2) := by show TwoM _ _ _ _ _ _ _ _; rw [hw'']; exact T.out.later (below_regrown wr dq osq)
              clear hw'' kc kd c0 c1 c2 c3 c4 cf d0 d1 d2 d3 d4 df k0 v0 C0 D0 k1 v1 C1 D1 k2 v2 C2 D2 k3 v3 C3 D3
              cases b with
              | true =>
                go_wp2
                go_roundg (gk - 1)
                case rel => exact ⟨j1, rfl, by have := HJ.out; omega, by rw [HJ.out]; have e := eqEp_iff.1 hxy; exact take_more HT.out HX.out (by rw [e]; exact HY.out), T2.out⟩
                case measure => omega
              | false =>
                go_wp2
                go_ret
                exact ⟨⟨false, rfl, ⟨fun k => (by cases k), fun k => (by have e := HX.out; rw [k, HY.out] at e; cases e; rw [eqEp_iff.2 rfl] at hxy; cases hxy)⟩⟩, T2.out.2.2.2.2⟩
            · have hlti : ¬ (j : Int) < (m1.ep.length : Int) := by omega
              obtain rfl : j = m1.ep.length := by omega
              have A2 := hidI (take_all (by omega) HT.out)
              clear HT hlti hlt hj
              go_wp2
              go_loopg [8] m1.st.length (fun k i wr => ∃ j : Nat, i = .int .i64 j ∧ j + k = m1.st.length ∧ m1.st.take j = m2.st.take j ∧ TwoM w b1 b2 S1 S2 m1 m2 wr)
              case atStart => exact ⟨0, rfl, by omega, rfl, T.out⟩
              case round =>
                obtain ⟨j, rfl, hj, ht, hT⟩ := hrel
                clear T c0 c1 c2 c3 c4 cf d0 d1 d2 d3 d4 df
                have T := hidI hT
                have HT := hidI ht
                clear hT ht
                obtain ⟨c0, c1, c2, c3, c4, cf⟩ := five_of T.out.1
                obtain ⟨d0, d1, d2, d3, d4, df⟩ := five_of T.out.2.1
                by_cases hlt : j < m1.st.length
                · have hlti : (j : Int) < (m1.st.length : Int) := by omega
                  have hlt2 : (j : Int) < (m2.st.length : Int) := by omega
                  obtain ⟨x, hx⟩ := rowsomeE hlt
                  obtain ⟨y, hy⟩ := rowsomeE (show j < m2.st.length by omega)
                  obtain ⟨g1, ga, h1⟩ := OwnR.elem (f := smL) (m := 3) (fun _ => rfl) T.out.2.2.1.st hx
                  obtain ⟨g2, gb, h2⟩ := OwnR.elem (f := smL) (m := 3) (fun _ => rfl) T.out.2.2.2.1.st hy
                  rw [ga] at c3
                  rw [gb] at d3
                  have C0 := hidI (h1 0 (by omega))
                  have D0 := hidI (h2 0 (by omega))
                  have C1 := hidI (h1 1 (by omega))
                  have D1 := hidI (h2 1 (by omega))
                  have C2 := hidI (h1 2 (by omega))
                  have D2 := hidI (h2 2 (by omega))
                  have HX := hidI hx
                  have HY := hidI hy
                  clear h1 h2 ga gb hx hy
                  obtain ⟨j1, hj1⟩ : ∃ j1, j1 = j + 1 := ⟨_, rfl⟩
                  have ej : (j : Int) + 1 = (j1 : Int) := by omega
                  have HJ := hidI hj1
                  clear hj1
                  obtain ⟨b, hxy⟩ : ∃ b, eqSm x y = b := ⟨_, rfl⟩
                  have hn1 : ∀ W : World, Sem.run Try.prog (binOp .neq 159 (.agg #[.int .i64 x.kind, .string x.name, .int .i64 x.expr]) (.agg #[.int .i64 y.kind, .string y.name, .int .i64 y.expr])) W = .ok (.bool !b) W := fun W => by rw [hneSm, hxy]
                  have hg1 : ∀ (op : BinOp) (a b : Operand) (W : World), Sem.run Try.prog (eqGuard op 159 a b (.agg #[.int .i64 x.kind, .string x.name, .int .i64 x.expr]) (.agg #[.int .i64 y.kind, .string y.name, .int .i64 y.expr])) W = .ok () W := fun op a b W => hgdSm op a b x y W
                  go_wp2
                  have kc := cell_regrown c3
                  have kd := cell_regrown d3
                  have k0 := cell_regrown C0.out
                  have v0 := cell_regrown D0.out
                  have k1 := cell_regrown C1.out
                  have v1 := cell_regrown D1.out
                  have k2 := cell_regrown C2.out
                  have v2 := cell_regrown D2.out
                  simp only [Nat.add_zero] at k0 v0
                  refine wp_region_quiet_below (by kernel_rfl) (by kernel_rfl) ?_
                  repeat (go_big_quiet_step (fail))
                  refine wpQuiet_nil ?_
                  intro w2 hw'
                  obtain ⟨⟨dq, osq⟩, hw''⟩ := hw'
                  have T2 : Hid (TwoM w b1 b2 S1 S2 m1 m2 w2) := by show TwoM _ _ _ _ _ _ _ _; rw [hw'']; exact T.out.later (below_regrown wr dq osq)
                  clear hw'' kc kd c0 c1 c2 c3 c4 cf d0 d1 d2 d3 d4 df k0 v0 C0 D0 k1 v1 C1 D1 k2 v2 C2 D2
                  cases b with
                  | true =>
                    go_wp2
                    go_roundg (gk - 1)
                    case rel => exact ⟨j1, rfl, by have := HJ.out; omega, by rw [HJ.out]; have e := eqSm_iff.1 hxy; exact take_more HT.out HX.out (by rw [e]; exact HY.out), T2.out⟩
                    case measure => omega
                  | false =>
                    go_wp2
                    go_ret
                    exact ⟨⟨false, rfl, ⟨fun k => (by cases k), fun k => (by have e := HX.out; rw [k, HY.out] at e; cases e; rw [eqSm_iff.2 rfl] at hxy; cases hxy)⟩⟩, T2.out.2.2.2.2⟩
                · have hlti : ¬ (j : Int) < (m1.st.length : Int) := by omega
                  obtain rfl : j = m1.st.length := by omega
                  have A3 := hidI (take_all (by omega) HT.out)
                  clear HT hlti hlt hj
                  go_wp2
                  go_loopg [9] m1.ex.length (fun k i wr => ∃ j : Nat, i = .int .i64 j ∧ j + k = m1.ex.length ∧ m1.ex.take j = m2.ex.take j ∧ TwoM w b1 b2 S1 S2 m1 m2 wr)
                  case atStart => exact ⟨0, rfl, by omega, rfl, T.out⟩
                  case round =>
                    obtain ⟨j, rfl, hj, ht, hT⟩ := hrel
                    clear T c0 c1 c2 c3 c4 cf d0 d1 d2 d3 d4 df
                    have T := hidI hT
                    have HT := hidI ht
                    clear hT ht
                    obtain ⟨c0, c1, c2, c3, c4, cf⟩ := five_of T.out.1
                    obtain ⟨d0, d1, d2, d3, d4, df⟩ := five_of T.out.2.1
                    by_cases hlt : j < m1.ex.length
                    · have hlti : (j : Int) < (m1.ex.length : Int) := by omega
                      have hlt2 : (j : Int) < (m2.ex.length : Int) := by omega
                      obtain ⟨x, hx⟩ := rowsomeE hlt
                      obtain ⟨y, hy⟩ := rowsomeE (show j < m2.ex.length by omega)
                      obtain ⟨g1, ga, h1⟩ := OwnR.elem (f := exL) (m := 6) (fun _ => rfl) T.out.2.2.1.ex hx
                      obtain ⟨g2, gb, h2⟩ := OwnR.elem (f := exL) (m := 6) (fun _ => rfl) T.out.2.2.2.1.ex hy
                      rw [ga] at c4
                      rw [gb] at d4
                      have C0 := hidI (h1 0 (by omega))
                      have D0 := hidI (h2 0 (by omega))
                      have C1 := hidI (h1 1 (by omega))
                      have D1 := hidI (h2 1 (by omega))
                      have C2 := hidI (h1 2 (by omega))
                      have D2 := hidI (h2 2 (by omega))
                      have C3 := hidI (h1 3 (by omega))
                      have D3 := hidI (h2 3 (by omega))
                      have C4 := hidI (h1 4 (by omega))
                      have D4 := hidI (h2 4 (by omega))
                      have C5 := hidI (h1 5 (by omega))
                      have D5 := hidI (h2 5 (by omega))
                      have HX := hidI hx
                      have HY := hidI hy
                      clear h1 h2 ga gb hx hy
                      obtain ⟨j1, hj1⟩ : ∃ j1, j1 = j + 1 := ⟨_, rfl⟩
                      have ej : (j : Int) + 1 = (j1 : Int) := by omega
                      have HJ := hidI hj1
                      clear hj1
                      obtain ⟨b, hxy⟩ : ∃ b, eqEx x y = b := ⟨_, rfl⟩
                      have hn1 : ∀ W : World, Sem.run Try.prog (binOp .neq 96 (.agg #[.int .i64 x.kind, .int .i64 x.num, .string x.name, .string x.field, .int .i64 x.l, .int .i64 x.r]) (.agg #[.int .i64 y.kind, .int .i64 y.num, .string y.name, .string y.field, .int .i64 y.l, .int .i64 y.r])) W = .ok (.bool !b) W := fun W => by rw [hneEx, hxy]
                      have hg1 : ∀ (op : BinOp) (a b : Operand) (W : World), Sem.run Try.prog (eqGuard op 96 a b (.agg #[.int .i64 x.kind, .int .i64 x.num, .string x.name, .string x.field, .int .i64 x.l, .int .i64 x.r]) (.agg #[.int .i64 y.kind, .int .i64 y.num, .string y.name, .string y.field, .int .i64 y.l, .int .i64 y.r])) W = .ok () W := fun op a b W => hgdEx op a b x y W
                      go_wp2
                      have kc := cell_regrown c4
                      have kd := cell_regrown d4
                      have k0 := cell_regrown C0.out
                      have v0 := cell_regrown D0.out
                      have k1 := cell_regrown C1.out
                      have v1 := cell_regrown D1.out
                      have k2 := cell_regrown C2.out
                      have v2 := cell_regrown D2.out
                      have k3 := cell_regrown C3.out
                      have v3 := cell_regrown D3.out
                      have k4 := cell_regrown C4.out
                      have v4 := cell_regrown D4.out
                      have k5 := cell_regrown C5.out
                      have v5 := cell_regrown D5.out
                      simp only [Nat.add_zero] at k0 v0
                      refine wp_region_quiet_below (by kernel_rfl) (by kernel_rfl) ?_
                      repeat (go_big_quiet_step (fail))
                      refine wpQuiet_nil ?_
                      intro w2 hw'
                      obtain ⟨⟨dq, osq⟩, hw''⟩ := hw'
                      have T2 : Hid (TwoM w b1 b2 S1 S2 m1 m2 w2) := by show TwoM _ _ _ _ _ _ _ _; rw [hw'']; exact T.out.later (below_regrown wr dq osq)
                      clear hw'' kc kd c0 c1 c2 c3 c4 cf d0 d1 d2 d3 d4 df k0 v0 C0 D0 k1 v1 C1 D1 k2 v2 C2 D2 k3 v3 C3 D3 k4 v4 C4 D4 k5 v5 C5 D5
                      cases b with
                      | true =>
                        go_wp2
                        go_roundg (gk - 1)
                        case rel => exact ⟨j1, rfl, by have := HJ.out; omega, by rw [HJ.out]; have e := eqEx_iff.1 hxy; exact take_more HT.out HX.out (by rw [e]; exact HY.out), T2.out⟩
                        case measure => omega
                      | false =>
                        go_wp2
                        go_ret
                        exact ⟨⟨false, rfl, ⟨fun k => (by cases k), fun k => (by have e := HX.out; rw [k, HY.out] at e; cases e; rw [eqEx_iff.2 rfl] at hxy; cases hxy)⟩⟩, T2.out.2.2.2.2⟩
                    · have hlti : ¬ (j : Int) < (m1.ex.length : Int) := by omega
                      obtain rfl : j = m1.ex.length := by omega
                      have A4 := hidI (take_all (by omega) HT.out)
                      clear HT hlti hlt hj
                      go_wp2
                      go_ret
                      exact ⟨⟨true, rfl, ⟨fun _ => md_eq A0.out A1.out A2.out A3.out A4.out, fun _ => rfl⟩⟩, T.out.2.2.2.2⟩
end Go.Proofs.Ytdbpknmoacjodaa
