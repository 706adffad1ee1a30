/-
  What impl.usedIn answers: the walk.
  What impl's told, restSet.put and Uses answer: the walks.
-/
import Derived.Test.YtaakfnclelcopaaCTrimNamesSeq
import Derived.Test.YtaakfnclelcopaaCTrimSetRise
import Derived.Test.YtaakfnclelcopaaCTrimCopyRowsS
namespace Go.Proofs.Ytaakfnclelcopaa
open Go.RowKit Go.PlainAid Go.Shelf

theorem Hd.grown {W W' : World} {b : Nat} (hb : b < W.heap.size) (h : W.grownBy W' (some b)) : Hd (fun k => k = b) W (fun k => k = b) W' :=
  ⟨h.os, h.tape, h.output, h.size, fun k hk hn => h.block k hk fun e => hn (Option.some.inj e), fun _ h => .inl h, fun k hk => by rw [hk]; exact Nat.lt_of_lt_of_le hb h.size⟩
def usedL (m : Md) : List ByteArray := nmV m ++ nmMem m.ex ++ nmEp m.ep
theorem fm_len {α β : Type} (p : α → Bool) (f : α → β) (l : List α) : ((l.filter p).map f).length ≤ l.length := by rw [List.length_map]; exact List.length_filter_le _ _
def NmOk (m : Md) : Prop := (∀ x ∈ m.im, x.loc.size ≤ maxLen) ∧ (∀ x ∈ m.st, x.name.size ≤ maxLen) ∧ (∀ x ∈ m.ep, x.loc.size ≤ maxLen) ∧ ∀ x ∈ m.ex, x.name.size ≤ maxLen
theorem NmOk.v {m : Md} (h : NmOk m) : ∀ s ∈ nmV m, s.size ≤ maxLen := by
  intro s hs
  rcases List.mem_append.1 hs with hs | hs
  · obtain ⟨x, hx, rfl⟩ := List.mem_map.1 hs
    exact h.2.1 x (List.mem_filter.1 hx).1
  · obtain ⟨x, hx, rfl⟩ := List.mem_map.1 hs
    exact h.2.2.2 x (List.mem_filter.1 hx).1
structure US (w : World) (bx : Obj) (b g z : Nat) (L : List ByteArray) (W : World) : Prop where
  set : SetW W b L
  own : W.heap[g]? = some (.cells #[.map (some b)] 64)
  box : W.heap[w.heap.size]? = some bx
  res : W.heap[w.heap.size + 1]? = some (.cells #[.map none] 64)
  def' : W.heap[z]? = some (.deferred (some []))
  bel : Below w.heap.size w W
theorem US.later {w : World} {bx : Obj} {b g z : Nat} {L : List ByteArray} {W W' : World} (h : US w bx b g z L W) (hb : Below W.heap.size W W') : US w bx b g z L W' :=
  ⟨h.set.kept (hb.block b h.set.lt), blk_later h.own hb, blk_later h.box hb, blk_later h.res hb, blk_later h.def' hb, h.bel.trans (hb.mono h.bel.size)⟩
theorem US.put {w : World} {bx : Obj} {b g z : Nat} {L L' : List ByteArray} {W W' : World} (h : US w bx b g z L W) (hs : SetW W' b L') (hg : W.grownBy W' (some b)) (hb : w.heap.size + 2 ≤ b) (hgb : g ≠ b) (hz : z ≠ b) : US w bx b g z L' W' := by
  have k : ∀ j, j ≠ b → ∀ o, W.heap[j]? = some o → W'.heap[j]? = some o := fun j hj o ho => (hg.block j (Array.getElem?_eq_some_iff.1 ho).1 fun e => hj (Option.some.inj e)).trans ho
  exact ⟨hs, k g hgb _ h.own, k _ (by omega) _ h.box, k _ (by omega) _ h.res, k z hz _ h.def', h.bel.grown hg h.bel.size fun j e => by have := Option.some.inj e; omega⟩
set_option maxRecDepth 100000 in
set_option maxHeartbeats 1600000 in
theorem isMember_any (x : Ex) (w : World) : Calls Try.prog 72 #[.agg #[.int .i64 x.kind, .int .i64 x.num, .string x.name, .string x.field, .int .i64 x.l, .int .i64 x.r]] w fun e w' => e = .returned (.bool (x.kind == 4 || x.kind == 5)) ∧ Below w.heap.size w w' := by
  have HB : Hid (Below w.heap.size w (w.alloc (.cells #[.int .i64 x.kind, .int .i64 x.num, .string x.name, .string x.field, .int .i64 x.l, .int .i64 x.r] 50))) := (Below.refl _ _).alloc (Nat.le_refl _) _
  cases k4 : (x.kind == 4) with
  | true =>
    go_enter Try.func72, Try.ntmps72
    go_wp2
    go_ret
    exact ⟨rfl, HB.out⟩
  | false =>
    cases k5 : (x.kind == 5) with
    | true =>
      go_enter Try.func72, Try.ntmps72
      go_wp2
      go_ret
      exact ⟨rfl, HB.out⟩
    | false =>
      go_enter Try.func72, Try.ntmps72
      go_wp2
      go_ret
      exact ⟨rfl, HB.out⟩
attribute [local go_sem] Oper.semAt_some
set_option maxRecDepth 100000 in
set_option maxHeartbeats 4000000 in
theorem usedIn_any (V : Sv) (m : Md) (w : World) (hR : MdR w V m) (hls : m.st.length ≤ 1048576) (hle : m.ex.length ≤ 1048576) (hlp : m.ep.length ≤ 1048576) (hN : NmOk m) :
    Calls Try.prog 35 #[modD V m] w fun e w' => ∃ b, e = .returned (.agg #[.map (some b)]) ∧ SetW w' b (usedL m) ∧ Below w.heap.size w w' ∧ w.heap.size ≤ b := by
  have HR := hidI hR
  have HN := hidI hN
  clear hR hN
  unfold modD
  obtain ⟨n, hn⟩ : ∃ n : Nat, n = 3 := ⟨_, rfl⟩
  clear hn
  refine (callsIn_wide (n := n)).1 ?_
  refine callsIn_of_wp_marks Try.func35 rfl trivial ?_ rfl
  simp only [Try.ntmps35, List.size_toArray, List.length_cons, List.length_nil, Nat.reduceAdd, Nat.reduceSub, Array.replicate_succ, Array.replicate_zero, List.push_toArray, List.append_toArray, List.nil_append, List.cons_append]
  obtain ⟨w0, hw0⟩ : ∃ w0, (w.alloc (boxD V m)).alloc (.cells #[.map none] 64) = w0 := ⟨_, rfl⟩
  have e0 : w0.heap.size = w.heap.size + 2 := by rw [← hw0, alloc_size, alloc_size]
  have B0 : Hid (Below w.heap.size w w0) := by rw [← hw0]; exact ((Below.refl _ _).alloc (Nat.le_refl _) _).alloc (by rw [alloc_size]; omega) _
  have X0 : Hid (w0.heap[w.heap.size]? = some (boxD V m)) := by rw [← hw0]; exact blk_later (heap_alloc_new w _) ((Below.refl _ _).alloc (Nat.le_refl _) _)
  have Z0 : Hid (w0.heap[w.heap.size + 1]? = some (.cells #[.map none] 64)) := by
    have := heap_alloc_new (w.alloc (boxD V m)) (.cells #[.map none] 64)
    rw [alloc_size, hw0] at this
    exact this
  gi_wp2
  refine wide_call (newNameSet_any _) ?_
  rintro e w1 ⟨b, rfl, hs1, hb1, hlb⟩
  have hb1 : Below w0.heap.size w0 w1 := by rw [← hw0]; exact hb1
  have hlb : w0.heap.size ≤ b := by rw [← hw0]; exact hlb
  clear hw0
  have l1 : w.heap.size < w1.heap.size := by have := hb1.size; omega
  obtain ⟨c0, c1, c2, c3, c4, cf⟩ := five_of ((hb1.block w.heap.size (by omega)).trans X0.out)
  gi_wp2
  refine wide_call (valueNames_any V m _) ?_
  rintro e w' ⟨rfl, rfl⟩
  have e1 : (w1.alloc (.cells #[.map (some b)] 64)).heap.size = w1.heap.size + 1 := alloc_size _ _
  rw [e1]
  obtain ⟨w2, hw2⟩ : ∃ w2, (w1.alloc (.cells #[.map (some b)] 64)).alloc (boxD V m) = w2 := ⟨_, rfl⟩
  have b12 : Below w1.heap.size w1 w2 := by rw [← hw2]; exact ((Below.refl _ _).alloc (Nat.le_refl _) _).alloc (by omega) _
  have e2 : w2.heap.size = w1.heap.size + 2 := by rw [← hw2, alloc_size, e1]
  have B2 : Hid (Below w.heap.size w w2) := B0.out.trans ((hb1.trans (b12.mono hb1.size)).mono B0.out.size)
  have G2 : Hid (w2.heap[w1.heap.size]? = some (.cells #[.map (some b)] 64)) := by rw [← hw2]; exact blk_later (heap_alloc_new w1 _) ((Below.refl _ _).alloc (Nat.le_refl _) _)
  have NH : Hid (NmH V m (w1.heap.size + 1) w2) := by
    refine hidI ⟨?_, HR.out.st.later B2.out, HR.out.ex.later B2.out⟩
    have := heap_alloc_new (w1.alloc (.cells #[.map (some b)] 64)) (boxD V m)
    rw [e1, hw2] at this
    exact this
  have S2 : Hid (SetW w2 b []) := hidI (hs1.kept (b12.block b hs1.lt))
  have X2 : Hid (w2.heap[w.heap.size]? = some (boxD V m)) := hidI (blk_later (blk_later X0.out hb1) b12)
  have Z2 : Hid (w2.heap[w.heap.size + 1]? = some (.cells #[.map none] 64)) := hidI (blk_later (blk_later Z0.out hb1) b12)
  have LB : Hid (b < w2.heap.size ∧ w.heap.size + 2 ≤ b ∧ b < w1.heap.size) := hidI ⟨Nat.lt_of_lt_of_le hs1.lt b12.size, by omega, hs1.lt⟩
  have HNB : Hid (∀ k, NmB V m (w1.heap.size + 1) k → ¬ k = b) := hidI (by
    rintro k (rfl | ⟨hl, o, ha⟩ | ⟨hl, o, ha⟩)
    · have := LB.out.2.2; omega
    · have := HR.out.st.lt hl ha; omega
    · have := HR.out.ex.lt hl ha; omega)
  have LV : Hid ((nmV m).length ≤ 2097152) := hidI (by
    have h1 : (nmSt m.st).length ≤ m.st.length := fm_len _ _ _
    have h2 : (nmEx m.ex).length ≤ m.ex.length := fm_len _ _ _
    rw [nmV, List.length_append]; omega)
  have NV := hidI HN.out.v
  clear hs1 hb1 hlb c0 c1 c2 c3 c4 cf b12
  rw [hw2]
  clear hw2 X0 Z0 B0
  gi_wp2
  refine wpIn_range_sep (gf := 81) rfl enters_names (names_seq V m (w1.heap.size + 1) hls hle) (fun U hU => NH.out.same hU) (fun k hk => NH.out.lt hk) rfl
    (fun pre C W => SetW W b pre ∧ C = fun k => k = b) (fun _ _ _ _ => False) ?loc (fun _ _ _ _ _ h _ => h) (fun k => k = b) (fun k hk => HNB.out k hk) (fun k hk => by rw [hk]; exact LB.out.1) ⟨S2.out, rfl⟩
    (fun x => { tmps := #[modD V m, .pointer (some ⟨w.heap.size, 0, none⟩), .pointer (some ⟨w.heap.size + 1, 0, none⟩), .pointer (some ⟨w1.heap.size, 0, none⟩), .string x, undef, undef, undef, undef, .agg #[.map (some b)], modD V m, .func (.func 81) #[] #[.pointer (some ⟨w1.heap.size + 1, 0, none⟩)], .string x, undef, undef, undef, undef, undef, undef, undef, undef, undef, undef, undef, undef, undef, undef, undef, undef, undef, undef, undef, undef, undef, undef, undef, undef, undef, undef, undef, undef, undef, undef, undef, undef, undef, undef, undef, undef], defers := [] }) ?assign ?body ?done ?stop
  case loc =>
    rintro pre C W W' ⟨h1, rfl⟩ hs
    exact ⟨h1.kept (hs b rfl), rfl⟩
  case assign =>
    intro l m' x W K hK
    gi_wp2
    exact hK
  case body =>
    rintro l m' pre x rest C1 W hx hfr ⟨hset, rfl⟩
    have hg : W.heap[w1.heap.size]? = some (.cells #[.map (some b)] 64) := (hfr.same w1.heap.size (by omega) (by have := LB.out.2.2; omega)).trans G2.out
    have hc := Boxed.cell hg
    have hxs := NV.out x (by rw [hx]; simp)
    have hpl : pre.length < maxLen := by have := LV.out; rw [hx] at this; simp at this; unfold maxLen; omega
    clear hx hg
    gi_wp2
    refine wide_callR (put_any b pre x W hset hxs hpl) ?_
    rintro e W1 ⟨⟨v, rfl⟩, hs1, hg1⟩
    gi_wp2
    exact ⟨_, Hd.grown hset.lt hg1, hs1, rfl⟩
  case stop =>
    rintro D c pre C1 W _ _ _ _ h _
    exact h.elim
  case done =>
    rintro D C1 W hD hfr hnD ⟨hset, rfl⟩ hK
    obtain ⟨g, hg⟩ : ∃ g, g = w1.heap.size := ⟨_, rfl⟩
    have hsm : ∀ k, k < w2.heap.size → k ≠ b → W.heap[k]? = w2.heap[k]? := fun k h1 h2 => hfr.same k h1 h2
    have U0 : Hid (US w (boxD V m) b g D (nmV m) W) := hidI ⟨hset, (hsm g (by omega) (by have := LB.out.2.2; omega)).trans (hg ▸ G2.out), (hsm _ (by have := LB.out.2; omega) (by have := LB.out.2.1; omega)).trans X2.out, (hsm _ (by have := LB.out.2; omega) (by have := LB.out.2.1; omega)).trans Z2.out, hK,
      B2.out.trans ⟨hfr.os, hfr.tape, hfr.output, hfr.size, fun k hk => hsm k (Nat.lt_of_lt_of_le hk B2.out.size) (by have := LB.out.2.1; omega)⟩⟩
    have HD : Hid (g ≠ b ∧ D ≠ b ∧ w.heap.size + 2 ≤ b) := hidI ⟨by have := LB.out.2.2; omega, by have := LB.out.1; omega, LB.out.2.1⟩
    have HDL : Hid (w.heap.size ≤ D) := hidI (by have := B2.out.size; omega)
    have LE : Hid ((nmV m).length ≤ 2097152) := LV
    rw [← hg]
    clear hset hfr hsm hK hnD hD hg e2 e1 l1 e0 B2 G2 NH S2 X2 Z2 LB HNB LV NV
    obtain ⟨c0, c1, c2, c3, c4, cf⟩ := five_of U0.out.box
    gi_wp2
    gi_loopw [20] (fun i wr => ∃ k : Nat, k ≤ m.ex.length ∧ i = .int .i64 k ∧ Hid (US w (boxD V m) b g D (nmV m ++ nmMem (m.ex.take k)) wr)) (fun i _ => (m.ex.length - intOf i).toNat)
    case atStart => exact ⟨0, Nat.zero_le _, rfl, by rw [show nmMem (m.ex.take 0) = [] from rfl, List.append_nil]; exact U0⟩
    case round =>
      obtain ⟨k, hk, rfl, HU⟩ := hrel
      clear U0 c0 c1 c2 c3 c4 cf
      by_cases hlt : k < m.ex.length
      · obtain ⟨x, hx⟩ : ∃ x, m.ex[k]? = some x := ⟨_, List.getElem?_eq_getElem hlt⟩
        obtain ⟨b1, off, ha, hc⟩ := (HR.out.ex.later HU.out.bel).get hx
        rw [ha]
        have d0 := hc 0 _ rfl
        have d1 := hc 1 _ rfl
        have d2 := hc 2 _ rfl
        have d3 := hc 3 _ rfl
        have d4 := hc 4 _ rfl
        have d5 := hc 5 _ rfl
        simp only [Nat.add_zero] at d0
        have MORE := hidI (fm_more (fun x : Ex => x.kind == 4 || x.kind == 5) (fun x => x.name) hx)
        have hxs := HN.out.2.2.2 x (List.mem_of_getElem? hx)
        have hln : (nmV m ++ nmMem (m.ex.take k)).length < maxLen := by
          have h1 : (nmMem (m.ex.take k)).length ≤ (m.ex.take k).length := fm_len _ _ _
          have h2 := LE.out
          rw [List.length_append]
          rw [List.length_take] at h1
          unfold maxLen
          omega
        obtain ⟨W2, hW2⟩ : ∃ W2, W2 = wr.alloc (.cells #[.int .i64 x.kind, .int .i64 x.num, .string x.name, .string x.field, .int .i64 x.l, .int .i64 x.r] 50) := ⟨_, rfl⟩
        have hX2 : W2.heap[wr.heap.size]? = some (.cells #[.int .i64 x.kind, .int .i64 x.num, .string x.name, .string x.field, .int .i64 x.l, .int .i64 x.r] 50) := by rw [hW2]; exact heap_alloc_new wr _
        have hb2 : Below wr.heap.size wr W2 := by rw [hW2]; exact (Below.refl _ _).alloc (Nat.le_refl _) _
        have U2 := hidI (HU.out.later hb2)
        clear hb2 hc hx ha HU
        gi_wp2
        rw [← hW2]
        refine wide_call (isMember_any x W2) ?_
        rintro e W3 ⟨rfl, hb3⟩
        have U3 := hidI (U2.out.later hb3)
        have f2 := (blk_later hX2 hb3)
        have e2 : W3.cell? ⟨wr.heap.size, 2, none⟩ = some (.string x.name) := by simp [World.cell?, f2]
        have hg := Boxed.cell U3.out.own
        clear U2 hX2 hW2 hb3 f2
        cases hkk : (x.kind == 4 || x.kind == 5) with
        | true =>
          have hm := MORE.out
          rw [hkk, if_pos rfl] at hm
          have HM : Hid (nmMem (m.ex.take (k + 1)) = nmMem (m.ex.take k) ++ [x.name]) := hm
          clear hm MORE
          gi_wp2
          refine wide_call (put_any b _ x.name W3 U3.out.set hxs hln) ?_
          rintro e W4 ⟨⟨v, rfl⟩, hs4, hg4⟩
          have U4 := hidI (U3.out.put hs4 hg4 HD.out.2.2 HD.out.1 HD.out.2.1)
          clear U3 hs4 hg4
          gi_wp2
          go_roundw
          case rel => exact ⟨k + 1, hlt, by go_num, by rw [HM.out, ← List.append_assoc]; exact U4⟩
          case measure => simp [intOf]; omega
        | false =>
          have hm := MORE.out
          rw [hkk, if_neg (by decide)] at hm
          have HM : Hid (nmMem (m.ex.take (k + 1)) = nmMem (m.ex.take k)) := hm
          clear hm MORE
          gi_wp2
          go_roundw
          case rel => exact ⟨k + 1, hlt, by go_num, by rw [HM.out]; exact U3⟩
          case measure => simp [intOf]; omega
      · obtain rfl : k = m.ex.length := by omega
        rw [List.take_length] at HU
        obtain ⟨c0, c1, c2, c3, c4, cf⟩ := five_of HU.out.box
        have LE2 : Hid ((nmV m ++ nmMem m.ex).length ≤ 3145728) := hidI (by
          have h1 : (nmMem m.ex).length ≤ m.ex.length := fm_len _ _ _
          have h2 := LE.out
          rw [List.length_append]
          omega)
        gi_wp2
        gi_loopw [35] (fun i wr => ∃ k : Nat, k ≤ m.ep.length ∧ i = .int .i64 k ∧ Hid (US w (boxD V m) b g D (nmV m ++ nmMem m.ex ++ nmEp (m.ep.take k)) wr)) (fun i _ => (m.ep.length - intOf i).toNat)
        case atStart => exact ⟨0, Nat.zero_le _, rfl, by rw [show nmEp (m.ep.take 0) = [] from rfl, List.append_nil]; exact HU⟩
        case round =>
          clear HU c0 c1 c2 c3 c4 cf
          obtain ⟨k, hk, rfl, HU⟩ := hrel
          by_cases hlt : k < m.ep.length
          · obtain ⟨x, hx⟩ : ∃ x, m.ep[k]? = some x := ⟨_, List.getElem?_eq_getElem hlt⟩
            obtain ⟨b1, off, ha, hc⟩ := (HR.out.ep.later HU.out.bel).get hx
            rw [ha]
            have d0 := hc 0 _ rfl
            have d1 := hc 1 _ rfl
            have d2 := hc 2 _ rfl
            have d3 := hc 3 _ rfl
            simp only [Nat.add_zero] at d0
            have MORE := hidI (fm_more (fun x : Ep => x.kind == 1) (fun x => x.loc) hx)
            have hxs := HN.out.2.2.1 x (List.mem_of_getElem? hx)
            have hln : (nmV m ++ nmMem m.ex ++ nmEp (m.ep.take k)).length < maxLen := by
              have h1 : (nmEp (m.ep.take k)).length ≤ (m.ep.take k).length := fm_len _ _ _
              have h2 := LE2.out
              rw [List.length_append]
              rw [List.length_take] at h1
              unfold maxLen
              omega
            obtain ⟨W2, hW2⟩ : ∃ W2, W2 = wr.alloc (.cells #[.int .i64 x.kind, .string x.name, .string x.loc, .string x.spec] 55) := ⟨_, rfl⟩
            have hb2 : Below wr.heap.size wr W2 := by rw [hW2]; exact (Below.refl _ _).alloc (Nat.le_refl _) _
            have U2 := hidI (HU.out.later hb2)
            have hg : (wr.alloc (.cells #[.int .i64 x.kind, .string x.name, .string x.loc, .string x.spec] 55)).cell? ⟨g, 0, none⟩ = some (.map (some b)) := by rw [← hW2]; exact Boxed.cell U2.out.own
            clear hb2 hc hx ha HU
            cases hk1 : (x.kind == 1) with
            | true =>
              have hm := MORE.out
              rw [hk1, if_pos rfl] at hm
              have HM : Hid (nmEp (m.ep.take (k + 1)) = nmEp (m.ep.take k) ++ [x.loc]) := hm
              clear hm MORE
              gi_wp2
              rw [← hW2]
              refine wide_call (put_any b _ x.loc W2 U2.out.set hxs hln) ?_
              rintro e W4 ⟨⟨v, rfl⟩, hs4, hg4⟩
              have U4 := hidI (U2.out.put hs4 hg4 HD.out.2.2 HD.out.1 HD.out.2.1)
              clear U2 hs4 hg4 hW2 hg
              gi_wp2
              go_roundw
              case rel => exact ⟨k + 1, hlt, by go_num, by rw [HM.out, ← List.append_assoc]; exact U4⟩
              case measure => simp [intOf]; omega
            | false =>
              have hm := MORE.out
              rw [hk1, if_neg (by decide)] at hm
              have HM : Hid (nmEp (m.ep.take (k + 1)) = nmEp (m.ep.take k)) := hm
              clear hm MORE
              gi_wp2
              rw [← hW2]
              go_roundw
              case rel => exact ⟨k + 1, hlt, by go_num, by rw [HM.out]; exact U2⟩
              case measure => simp [intOf]; omega
          · obtain rfl : k = m.ep.length := by omega
            rw [List.take_length] at HU
            have hg := Boxed.cell HU.out.own
            have hz := Boxed.cell HU.out.res
            have hzf := Boxed.frozen HU.out.res
            gi_wp2
            have hD1 : D ≠ w.heap.size + 1 := fun e => by
              have h1 := HU.out.def'
              rw [e, HU.out.res] at h1
              cases h1
            have hzl := Boxed.lt HU.out.res
            have hs1 : ∀ k, k ≠ w.heap.size + 1 → (wr.setCell ⟨w.heap.size + 1, 0, none⟩ (.map (some b))).heap[k]? = wr.heap[k]? := fun k hk => heap_setCell_other wr ⟨w.heap.size + 1, 0, none⟩ k _ hk
            have hr1 : (wr.setCell ⟨w.heap.size + 1, 0, none⟩ (.map (some b))).heap[w.heap.size + 1]? = some (.cells #[.map (some b)] 64) := by
              have e := qcell (i := 0) (u := .map (some b)) HU.out.res
              rw [e]
              rfl
            have hDk := (hs1 D hD1).trans HU.out.def'
            refine ⟨by simp, .inl ⟨_, _, rfl, run_takeDeferred hDk, ?_⟩⟩
            refine ⟨_, results_cell_row rfl _ _ (w.heap.size + 1) 64 #[.map (some b)] (0, 0) _ rfl ((World.putObj_heap_other hD1.symm).trans hr1) Try.underlying64 rfl (by kernel_rfl), b, rfl, ?_, ?_, by have := HD.out.2.2; omega⟩
            · exact (HU.out.set.kept (hs1 b (by have := HD.out.2.2; omega))).kept (World.putObj_heap_other HD.out.2.1.symm)
            · exact (HU.out.bel.setCell (by show w.heap.size ≤ w.heap.size + 1; omega) _).trans (belowK_b (w := w) (Nat.le_refl _) _ D _ _ HDL.out hDk rfl rfl)
end Go.Proofs.Ytaakfnclelcopaa
namespace Go.Proofs.Ytaakfnclelcopaa
open Go.RowKit Go.PlainAid

theorem outS_row {w : World} {base n cap : Nat} {a : Option Addr} {xs : List ByteArray} (h : OutS w base a n cap xs) : RowAt w a stE.f 1 xs := by
  by_cases h0 : 0 < n
  · obtain ⟨g, rfl, ho⟩ := h.2 h0
    have : OwnE stE w base 9 g n cap xs := ⟨by rw [st_flat]; exact ho.1, ho.2⟩
    exact this.row
  · exact .inl (List.eq_nil_of_length_eq_zero (by rw [← h.1]; omega))
set_option maxRecDepth 100000 in
set_option maxHeartbeats 1600000 in
theorem told_any (b : Nat) (L l : List ByteArray) (w : World) (h : SetW w b L) (hl : RisT l) (hm : ∀ s, s ∈ L ↔ s ∈ l) (hn : L.length ≤ 8000000) (hk : l.length ≤ L.length) (hs : ∀ s ∈ L, s.size ≤ 281474976710656) :
    Calls Try.prog 36 #[.agg #[.map (some b)]] w (UseOutI w l) := by
  have HB : Hid (Below w.heap.size w (w.alloc (.cells #[.map (some b)] 64))) := (Below.refl _ _).alloc (Nat.le_refl _) _
  have HS : Hid (SetW (w.alloc (.cells #[.map (some b)] 64)) b L) := hidI (h.kept (HB.out.block b h.lt))
  clear h
  go_enter Try.func36, Try.ntmps36
  go_wp2_with fail
  refine (rising_any b L l _ HS.out hl hm hn).mono ?_
  rintro e w1 ⟨a, n, cap, rfl, ho, hb⟩
  have HR := hidI (outS_row ho)
  have e1 := ho.1
  clear ho
  subst e1
  go_wp2_with fail
  refine (copyRowsS_any a cap l w1 HR.out (by omega) fun s hx => hs s ((hm s).2 hx)).mono ?_
  rintro e w2 ⟨g', cap', rfl, ho, hb2⟩
  go_wp2
  go_ret
  have h1 : w.heap.size ≤ w1.heap.size := Nat.le_trans HB.out.size hb.size
  exact ⟨_, _, _, rfl, ⟨rfl, fun _ => ⟨g', rfl, ownS_low (base := w1.heap.size) ⟨by have := ho.1; rw [st_flat] at this; exact this, rfl⟩ h1⟩⟩, HB.out.trans ((hb.trans (hb2.mono hb.size)).mono HB.out.size)⟩
theorem used_len (m : Md) : (usedL m).length ≤ m.st.length + m.ex.length + m.ex.length + m.ep.length := by
  have h1 : (nmSt m.st).length ≤ m.st.length := fm_len _ _ _
  have h2 : (nmEx m.ex).length ≤ m.ex.length := fm_len _ _ _
  have h3 : (nmMem m.ex).length ≤ m.ex.length := fm_len _ _ _
  have h4 : (nmEp m.ep).length ≤ m.ep.length := fm_len _ _ _
  rw [usedL, nmV, List.length_append, List.length_append, List.length_append]
  omega
theorem ris_len {l L : List ByteArray} (h : RisT l) (hm : ∀ s, s ∈ l → s ∈ L) : l.length ≤ L.length := (ris_nodup h).length_le_of_subset hm
def NmSz (m : Md) : Prop := (∀ x ∈ m.im, x.loc.size ≤ 281474976710656) ∧ (∀ x ∈ m.st, x.name.size ≤ 281474976710656) ∧ (∀ x ∈ m.ep, x.loc.size ≤ 281474976710656) ∧ ∀ x ∈ m.ex, x.name.size ≤ 281474976710656
theorem NmSz.ok {m : Md} (h : NmSz m) : NmOk m := ⟨fun x hx => Nat.le_trans (h.1 x hx) (by decide), fun x hx => Nat.le_trans (h.2.1 x hx) (by decide), fun x hx => Nat.le_trans (h.2.2.1 x hx) (by decide), fun x hx => Nat.le_trans (h.2.2.2 x hx) (by decide)⟩
theorem cost_mem {α : Type} (c : α → Nat) {l : List α} {x : α} (h : x ∈ l) : c x ≤ rowCost c l := by
  induction l with
  | nil => cases h
  | cons y l ih =>
    have e : rowCost c (y :: l) = c y + rowCost c l := by simp [rowCost]
    rw [e]
    rcases List.mem_cons.1 h with rfl | h
    · omega
    · have := ih h; omega
theorem NmSz.of_cost {m : Md} (h : costM m ≤ 1048576) : NmSz m := by
  unfold costM at h
  refine ⟨fun x hx => ?_, fun x hx => ?_, fun x hx => ?_, fun x hx => ?_⟩
  · have h1 := cost_mem costIm hx
    have h2 : x.loc.size ≤ costIm x := by unfold costIm; omega
    omega
  · have h1 := cost_mem costSm hx
    have h2 : x.name.size ≤ costSm x := by unfold costSm; omega
    omega
  · have h1 := cost_mem costEp hx
    have h2 : x.loc.size ≤ costEp x := by unfold costEp; omega
    omega
  · have h1 := cost_mem costEx hx
    have h2 : x.name.size ≤ costEx x := by unfold costEx; omega
    omega
theorem NmSz.used {m : Md} (h : NmSz m) : ∀ s ∈ usedL m, s.size ≤ 281474976710656 := by
  intro s hs
  simp only [usedL, nmV, List.mem_append] at hs
  rcases hs with ((hs | hs) | hs) | hs
  · obtain ⟨x, hx, rfl⟩ := List.mem_map.1 hs
    exact h.2.1 x (List.mem_filter.1 hx).1
  · obtain ⟨x, hx, rfl⟩ := List.mem_map.1 hs
    exact h.2.2.2 x (List.mem_filter.1 hx).1
  · obtain ⟨x, hx, rfl⟩ := List.mem_map.1 hs
    exact h.2.2.2 x (List.mem_filter.1 hx).1
  · obtain ⟨x, hx, rfl⟩ := List.mem_map.1 hs
    exact h.2.2.1 x (List.mem_filter.1 hx).1
set_option maxRecDepth 100000 in
set_option maxHeartbeats 1600000 in
theorem uses_impl (V : Sv) (m : Md) (w : World) (hr : MdR w V m) (hl : m.ex.length ≤ 1048576 ∧ m.st.length ≤ 1048576 ∧ m.ep.length ≤ 1048576) (hN : NmSz m) :
    Calls Try.prog 10 #[modD V m] w (UseOutI w (useAll m)) := by
  have HB : Hid (Below w.heap.size w (w.alloc (boxD V m))) := (Below.refl _ _).alloc (Nat.le_refl _) _
  have HR := hidI (hr.later HB.out)
  have HN := hidI hN
  have HL := hidI hl
  clear hr hN hl
  unfold modD
  go_enter Try.func10, Try.ntmps10
  go_wp2_with fail
  refine (usedIn_any V m _ HR.out HL.out.2.1 HL.out.1 HL.out.2.2 HN.out.ok).mono ?_
  rintro e w1 ⟨b, rfl, hs, hb, _⟩
  have HS := hidI hs
  clear hs
  go_wp2_with fail
  refine (told_any b _ _ _ HS.out (use_ris m) (fun s => (use_mem m s).symm) (by have := used_len m; have := HL.out; omega) (ris_len (use_ris m) fun s hs => (use_mem m s).1 hs) HN.out.used).mono ?_
  rintro e w2 ⟨a, n, cap, rfl, ho, hb2⟩
  go_wp2
  go_ret
  have h1 := Nat.le_trans HB.out.size hb.size
  exact ⟨a, n, cap, rfl, ⟨ho.1, fun h0 => by obtain ⟨g, hg, h2⟩ := ho.2 h0; exact ⟨g, hg, ownS_low h2 h1⟩⟩, HB.out.trans ((hb.trans (hb2.mono hb.size)).mono HB.out.size)⟩
set_option maxRecDepth 100000 in
set_option maxHeartbeats 1600000 in
theorem restPut_any (b u : Nat) (L U : List ByteArray) (s : ByteArray) (w : World) (h : SetW w b L) (hu : SetW w u U) (hs : s.size ≤ maxLen) (hn : L.length < maxLen) :
    Calls Try.prog 49 #[.agg #[.map (some b), .func (.func 48) #[.map (some u)] #[]], .string s] w fun e w' => (∃ v, e = .returned v) ∧ SetW w' b (if inT U s then L else L ++ [s]) ∧ w.grownBy w' (some b) := by
  obtain ⟨w0, hw0⟩ : ∃ w0, w0 = w.alloc (.cells #[.map (some b), .func (.func 48) #[.map (some u)] #[]] 82) := ⟨_, rfl⟩
  have HB : Hid (Below w.heap.size w w0) := by rw [hw0]; exact (Below.refl _ _).alloc (Nat.le_refl _) _
  have X0 : Hid (w0.heap[w.heap.size]? = some (.cells #[.map (some b), .func (.func 48) #[.map (some u)] #[]] 82)) := by rw [hw0]; exact heap_alloc_new w _
  have S0 := hidI (h.kept (HB.out.block b h.lt))
  have U0 := hidI (hu.kept (HB.out.block u hu.lt))
  clear h hu
  go_enter Try.func49, Try.ntmps49
  go_wp2_with fail
  rw [← hw0]
  refine (hasS_any u U s w0 U0.out hs).mono ?_
  rintro e w1 ⟨rfl, hb⟩
  have S1 := hidI (S0.out.kept (hb.block b S0.out.lt))
  have X1 := blk_later X0.out hb
  have c0 : w1.cell? ⟨w.heap.size, 0, none⟩ = some (.map (some b)) := by simp [World.cell?, X1]
  have B1 := hidI (HB.out.trans (hb.mono HB.out.size))
  clear hw0 X1 hb S0 U0 X0
  cases hi : inT U s with
  | true =>
    go_wp2
    refine bodyPost_end (results_none rfl _ _ _) rfl ?_
    exact ⟨⟨_, rfl⟩, S1.out, B1.out.os, B1.out.tape, B1.out.output, B1.out.size, fun k hk _ => B1.out.block k hk⟩
  | false =>
    go_wp2_with fail
    refine (put_any b L s w1 S1.out hs hn).mono ?_
    rintro e w2 ⟨⟨v, rfl⟩, h2, hg⟩
    go_wp2
    all_goals refine bodyPost_end (results_none rfl _ _ _) rfl ?_
    all_goals exact ⟨⟨_, rfl⟩, h2, hg.os.trans B1.out.os, hg.tape.trans B1.out.tape, hg.output.trans B1.out.output, Nat.le_trans B1.out.size hg.size, fun k hk hne => (hg.block k (Nat.lt_of_lt_of_le hk B1.out.size) hne).trans (B1.out.block k hk)⟩
end Go.Proofs.Ytaakfnclelcopaa
