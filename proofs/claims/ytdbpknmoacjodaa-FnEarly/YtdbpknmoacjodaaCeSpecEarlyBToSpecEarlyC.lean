/-
  What spec's l6Names answers: the walk.
  What spec.Early answers: the walk.
-/
import Derived.Test.YtdbpknmoacjodaaCeSrcRowToImplParseQ
namespace Go.Proofs.Ytdbpknmoacjodaa
open Go.RowKit Go.PlainAid Go.Sort

theorem Try.infoES : (Try.prog.info? 9).map (fun i => (i.zero, i.size, i.bytes)) = some (some (.string { data := #[] }), 1, 16) := by kernel_rfl
def PB (W1 W : World) (r : Rw) (l : List ByteArray) : Prop := Below W1.heap.size W1 W ∧ OwnR W W1.heap.size 9 1 r l.length (l.map .string)
theorem PB.below {W1 W W' : World} {r : Rw} {l : List ByteArray} (h : PB W1 W r l) (hb : Below W.heap.size W W') : PB W1 W' r l :=
  ⟨h.1.trans (hb.mono h.1.size), h.2.keep fun k hk => hb.block k (h.2.typed hk).2.1⟩
theorem PB.nil (W : World) : PB W (W.alloc (.cells #[] 9 (0, 0))) ⟨some ⟨W.heap.size, 0, none⟩, 0⟩ [] :=
  ⟨(Below.refl _ _).alloc (Nat.le_refl _) _, World.ownsRow_lit W #[] 0 (Nat.le_refl _) (by unfold maxLen; omega) rfl⟩
theorem PB.app {W1 W w' : World} {r r' : Rw} {l : List ByteArray} {x : ByteArray} (h : PB W1 W r l) (hr : OwnR w' W1.heap.size 9 1 r' (l.length + 1) (l.map .string ++ [.string x])) (hg : W.grownBy w' r.blk) : PB W1 w' r' (l ++ [x]) := by
  refine ⟨h.1.grown hg h.1.size fun k hk => (h.2.typed hk).1, ?_⟩
  rw [List.length_append, List.map_append]
  exact hr
theorem PB.row {W1 W : World} {r : Rw} {l : List ByteArray} (h : PB W1 W r l) : RowS W r.a l := RowS.of h.2
theorem stN_more {l : List Sm} {j : Nat} {x : Sm} (h : l[j]? = some x) : stN (l.take (j + 1)) = if decB x then stN (l.take j) ++ [x.name] else stN (l.take j) := by
  rw [take_snoc h, stN, stN, List.filter_append]
  cases hd : decB x <;> simp [hd]
def NamOut (w : World) (l : List ByteArray) (e : Ending) (w' : World) : Prop := ∃ r : Rw, e = .returned (.slice r.a l.length r.cap) ∧ PB w w' r l
set_option maxRecDepth 100000 in
set_option maxHeartbeats 3200000 in
theorem l6Names_spec (V : Sv) (m : Md) (w : World) (hr : RowAt w V.st.a smL 3 m.st) (hl : m.st.length ≤ 10000) :
    Calls Try.prog 104 #[modD V m] w (NamOut w (stN m.st)) := by
  obtain ⟨a, ha⟩ : ∃ a, V.st.a = a := ⟨_, rfl⟩
  unfold modD
  rw [ha] at hr ⊢
  have BOX := hidI (heap_alloc_new w (.cells #[.slice V.rq.a m.rq.length V.rq.cap, .slice V.im.a m.im.length V.im.cap, .slice V.ep.a m.ep.length V.ep.cap, .slice a m.st.length V.st.cap, .slice V.ex.a m.ex.length V.ex.cap] 37))
  have HB0 : Hid (Below w.heap.size w (w.alloc (.cells #[.slice V.rq.a m.rq.length V.rq.cap, .slice V.im.a m.im.length V.im.cap, .slice V.ep.a m.ep.length V.ep.cap, .slice a m.st.length V.st.cap, .slice V.ex.a m.ex.length V.ex.cap] 37))) := (Below.refl _ _).alloc (Nat.le_refl _) _
  have HR := hidI (hr.later HB0.out)
  have HS := hidI (alloc_size w (.cells #[.slice V.rq.a m.rq.length V.rq.cap, .slice V.im.a m.im.length V.im.cap, .slice V.ep.a m.ep.length V.ep.cap, .slice a m.st.length V.st.cap, .slice V.ex.a m.ex.length V.ex.cap] 37))
  have HP := hidI (PB.nil (w.alloc (.cells #[.slice V.rq.a m.rq.length V.rq.cap, .slice V.im.a m.im.length V.im.cap, .slice V.ep.a m.ep.length V.ep.cap, .slice a m.st.length V.st.cap, .slice V.ex.a m.ex.length V.ex.cap] 37)))
  clear hr ha
  obtain ⟨i0, hi, hz0, hz1, hz2⟩ := info_parts Try.infoES
  go_enter Try.func104, Try.ntmps104
  go_upto_region 2 with fail
  obtain ⟨W0, hW0⟩ : ∃ W0, W0 = w.alloc (.cells #[.slice V.rq.a m.rq.length V.rq.cap, .slice V.im.a m.im.length V.im.cap, .slice V.ep.a m.ep.length V.ep.cap, .slice a m.st.length V.st.cap, .slice V.ex.a m.ex.length V.ex.cap] 37) := ⟨_, rfl⟩
  rw [← hW0] at BOX HB0 HR HS HP ⊢
  refine world_anyI (R := fun W => PB W0 W ⟨some ⟨w.heap.size + 1, 0, none⟩, 0⟩ []) (by rw [← HS.out]; exact HP.out) ?_
  clear hW0 HP
  intro W1 hp
  have HP1 := hidI hp
  clear hp
  go_wp2
  go_loopg [3, 4] m.st.length (fun k o i wr => ∃ (j : Nat) (r : Rw), o = .slice r.a (stN (m.st.take j)).length r.cap ∧ i = .int .i64 j ∧ j + k = m.st.length ∧ PB W0 wr r (stN (m.st.take j)))
  case atStart => exact ⟨0, _, rfl, rfl, by omega, HP1.out⟩
  case round =>
    obtain ⟨j, r, rfl, rfl, hj, hp⟩ := hrel
    have HP := hidI hp
    clear hp
    obtain ⟨c0, c1, c2, c3, c4, cf⟩ := five_of ((HP.out.1.block w.heap.size (by rw [HS.out]; omega)).trans BOX.out)
    by_cases hlt : j < m.st.length
    · have hlti : (j : Int) < (m.st.length : Int) := by omega
      obtain ⟨x, hx⟩ : ∃ x, m.st[j]? = some x := ⟨_, List.getElem?_eq_getElem hlt⟩
      obtain ⟨b, off, rfl, hc⟩ := (HR.out.later HP.out.1).get hx
      have HX := hidI hx
      have d0 := hc 0 _ rfl
      have d1 := hc 1 _ rfl
      have d2 := hc 2 _ rfl
      simp only [Nat.add_zero] at d0
      clear hc hx
      obtain ⟨n, hn⟩ : ∃ n, n = (stN (m.st.take j)).length := ⟨_, rfl⟩
      have HN := hidI hn
      have hnj : n ≤ j := by rw [hn, stN, List.length_map]; exact Nat.le_trans (List.length_filter_le _ _) (by rw [List.length_take]; omega)
      rw [← hn]
      clear hn
      go_upto_region 6 with fail
      refine world_anyI (R := fun W => PB W0 W r (stN (m.st.take j)) ∧ W.heap[wr.heap.size]? = some (.cells (smL x).toArray 159 (0, 0))) ?_ ?_
      · exact ⟨HP.out.below ((Below.refl _ _).alloc (Nat.le_refl _) _), heap_alloc_new wr _⟩
      obtain ⟨bs, hbs⟩ : ∃ bs, bs = wr.heap.size := ⟨_, rfl⟩
      rw [← hbs]
      clear c0 c1 c2 c3 c4 cf d0 d1 d2 hbs HP
      rintro W2 ⟨hp2, hx2⟩
      have HP2 := hidI hp2
      obtain ⟨e0, e1, e2, ef⟩ := three_of hx2
      have hlt2 := (Array.getElem?_eq_some_iff.1 hx2).1
      have KEY := hidI (stN_more HX.out)
      obtain ⟨j1, hj1⟩ : ∃ j1, j1 = j + 1 := ⟨_, rfl⟩
      have ej : (j : Int) + 1 = (j1 : Int) := by omega
      have HJ := hidI hj1
      clear hp2 hx2 hj1
      have no : ∀ (hd : decB x = false), ∃ (j' : Nat) (r' : Rw), Value.slice r.a n r.cap = .slice r'.a (stN (m.st.take j')).length r'.cap ∧ Value.int .i64 (j1 : Int) = .int .i64 (j' : Int) ∧ j' + (gk - 1) = m.st.length ∧ PB W0 W2 r' (stN (m.st.take j')) := fun hd => by
        have e := KEY.out
        rw [hd, if_neg Bool.false_ne_true] at e
        refine ⟨j1, r, ?_, rfl, by have := HJ.out; omega, ?_⟩
        · rw [HN.out, HJ.out, e]
        · rw [HJ.out, e]
          exact HP2.out
      have NO := hidI no
      have YES : Hid (decB x = true → ∀ (r' : Rw) (w' : World), PB W0 w' r' (stN (m.st.take j) ++ [x.name]) → ∃ (j' : Nat) (r'' : Rw), Value.slice r'.a (n + 1) r'.cap = .slice r''.a (stN (m.st.take j')).length r''.cap ∧ Value.int .i64 (j1 : Int) = .int .i64 (j' : Int) ∧ j' + (gk - 1) = m.st.length ∧ PB W0 w' r'' (stN (m.st.take j'))) := fun hd r' w' hpb => by
        have e := KEY.out
        rw [hd, if_pos rfl] at e
        refine ⟨j1, r', ?_, rfl, by have := HJ.out; omega, ?_⟩
        · rw [HN.out, HJ.out, e, List.length_append]
          rfl
        · rw [HJ.out, e]
          exact hpb
      have OWN : Hid (∀ o, OwnR (W2.alloc o) W0.heap.size 9 1 r n ((stN (m.st.take j)).map .string)) := fun o => by
        rw [HN.out]
        exact (HP2.out.below ((Below.refl _ _).alloc (Nat.le_refl _) o)).2
      have SZ := hidI HP2.out.1.size
      have GRW : Hid (∀ (r' : Rw) (w' : World) (o : Obj), OwnR w' W0.heap.size 9 1 r' (n + 1) ((stN (m.st.take j)).map .string ++ [.string x.name]) → (W2.alloc o).grownBy w' r.blk → PB W0 w' r' (stN (m.st.take j) ++ [x.name])) := fun r' w' o hr hg => by
        rw [HN.out] at hr
        exact (HP2.out.below ((Below.refl _ _).alloc (Nat.le_refl _) o)).app hr hg
      clear no KEY HN HP2 HR HB0 BOX
      cases k1 : (x.kind == 1) with
      | true =>
        cases k3 : (x.name.toList == dN) with
        | true =>
          have hd : decB x = false := by rw [decB, k1, k3]; rfl
          have REL := hidI (NO.out hd)
          clear NO YES hd
          go_wp2
          go_roundg (gk - 1)
          case rel => exact REL.out
          case measure => omega
        | false =>
          have hd : decB x = true := by rw [decB, k1, k3]; rfl
          have REL := hidI (YES.out hd)
          clear NO YES hd
          go_wp2_with (first | (at_builtin; refine app_row _ rfl _ _ 22 rfl W0.heap.size 9 i0 _ 1 16 Try.underlying22 hi hz0 hz1 hz2 rfl (by decide) (by decide) r n _ rfl (OWN.out _) W2.heap.size [.string x.name] rfl (heap_alloc_new _ _) rfl (str_ones _) (by omega) (by rw [alloc_size]; have := SZ.out; omega) ?_; intro r' w' hr' hg' _))
          have REL2 := hidI (REL.out r' w' (GRW.out r' w' _ hr' hg'))
          clear hr' hg'
          go_wp2
          go_roundg (gk - 1)
          case rel => exact REL2.out
          case measure => omega
      | false =>
        cases k2 : (x.kind == 2) with
        | false =>
          have hd : decB x = false := by rw [decB, k1, k2]; rfl
          have REL := hidI (NO.out hd)
          clear NO YES hd
          go_wp2
          go_roundg (gk - 1)
          case rel => exact REL.out
          case measure => omega
        | true =>
          cases k3 : (x.name.toList == dN) with
          | true =>
            have hd : decB x = false := by rw [decB, k1, k2, k3]; rfl
            have REL := hidI (NO.out hd)
            clear NO YES hd
            go_wp2
            go_roundg (gk - 1)
            case rel => exact REL.out
            case measure => omega
          | false =>
            have hd : decB x = true := by rw [decB, k1, k2, k3]; rfl
            have REL := hidI (YES.out hd)
            clear NO YES hd
            go_wp2_with (first | (at_builtin; refine app_row _ rfl _ _ 22 rfl W0.heap.size 9 i0 _ 1 16 Try.underlying22 hi hz0 hz1 hz2 rfl (by decide) (by decide) r n _ rfl (OWN.out _) W2.heap.size [.string x.name] rfl (heap_alloc_new _ _) rfl (str_ones _) (by omega) (by rw [alloc_size]; have := SZ.out; omega) ?_; intro r' w' hr' hg' _))
            have REL2 := hidI (REL.out r' w' (GRW.out r' w' _ hr' hg'))
            clear hr' hg'
            go_wp2
            go_roundg (gk - 1)
            case rel => exact REL2.out
            case measure => omega
    · have hlti : ¬ (j : Int) < (m.st.length : Int) := by omega
      have hjl : m.st.take j = m.st := List.take_of_length_le (by omega)
      rw [hjl] at HP ⊢
      go_wp2
      go_ret
      exact ⟨r, rfl, HB0.out.trans (HP.out.1.mono (by rw [HS.out]; omega)), HP.out.2.low (by rw [HS.out]; omega)⟩
end Go.Proofs.Ytdbpknmoacjodaa
namespace Go.Proofs.Ytdbpknmoacjodaa
open Go.RowKit Go.PlainAid Go.Sort

theorem imN_more {l : List Im} {j : Nat} {x : Im} (h : l[j]? = some x) : imN (l.take (j + 1)) = imN (l.take j) ++ [x.loc] := by
  rw [take_snoc h, imN, imN, List.map_append]
  rfl
theorem stN_len (l : List Sm) : (stN l).length ≤ l.length := by
  rw [stN, List.length_map]
  exact List.length_filter_le _ _
theorem len_snoc (l : List ByteArray) (x : ByteArray) : (l ++ [x]).length = l.length + 1 := by simp
theorem OwnR.fits {w : World} {base size n : Nat} {e : TypeId} {r : Rw} {xs : List Value} (h : OwnR w base e size r n xs) : n ≤ r.cap := by
  obtain ⟨_, ⟨_, h2⟩ | ⟨g, cap, cur, h1, _, _, h2, _⟩⟩ := h
  · omega
  · simp only [Value.slice.injEq] at h1
    omega
theorem epN_more {l : List Ep} {j : Nat} {x : Ep} (h : l[j]? = some x) : epN (l.take (j + 1)) = if x.kind == 3 then epN (l.take j) else epN (l.take j) ++ [x.name] := by
  rw [take_snoc h, epN, epN, List.filter_append]
  cases hd : (x.kind == 3) <;> simp [hd]
theorem epN_len (l : List Ep) : (epN l).length ≤ l.length := by
  rw [epN, List.length_map]
  exact List.length_filter_le _ _
theorem any_more {α : Type} {f : α → Bool} {l : List α} {j : Nat} {x : α} (h : l[j]? = some x) : (l.take (j + 1)).any f = ((l.take j).any f || f x) := by
  rw [take_snoc h, List.any_append]
  simp
theorem kind_13 {z : Int} (h : (z == 1) = true) : (z == 3) = false := by
  rw [eq_of_beq h]
  rfl
def MdBox (V : Sv) (m : Md) (b : Nat) (W : World) : Prop := W.heap[b]? = some (.cells #[.slice V.rq.a m.rq.length V.rq.cap, .slice V.im.a m.im.length V.im.cap, .slice V.ep.a m.ep.length V.ep.cap, .slice V.st.a m.st.length V.st.cap, .slice V.ex.a m.ex.length V.ex.cap] 37 (0, 0)) ∧ RowAt W V.im.a imL 3 m.im ∧ RowAt W V.ep.a epL 4 m.ep ∧ RowAt W V.st.a smL 3 m.st ∧ RowAt W V.ex.a exL 6 m.ex
theorem MdBox.later {V : Sv} {m : Md} {b : Nat} {W W' : World} (h : MdBox V m b W) (hb : Below W.heap.size W W') : MdBox V m b W' :=
  ⟨(hb.block b (Array.getElem?_eq_some_iff.1 h.1).1).trans h.1, h.2.1.later hb, h.2.2.1.later hb, h.2.2.2.1.later hb, h.2.2.2.2.later hb⟩
theorem MdBox.lt {V : Sv} {m : Md} {b : Nat} {W : World} (h : MdBox V m b W) : b < W.heap.size := (Array.getElem?_eq_some_iff.1 h.1).1
set_option maxRecDepth 100000 in
set_option maxHeartbeats 25600000 in
theorem early_spec (V : Sv) (m : Md) (scr : Bool) (w : World) (hI : RowAt w V.im.a imL 3 m.im) (hE : RowAt w V.ep.a epL 4 m.ep) (hS : RowAt w V.st.a smL 3 m.st) (hX : RowAt w V.ex.a exL 6 m.ex) (lI : m.im.length ≤ 10000) (lE : m.ep.length ≤ 10000) (lS : m.st.length ≤ 10000) (lX : m.ex.length ≤ 10000) :
    Calls Try.prog 41 #[modD V m, .bool scr] w fun e w' => e = .returned (.int .i64 (earlyS m)) ∧ Below w.heap.size w w' := by
  have HB0 : Hid (Below w.heap.size w (w.alloc (.cells #[.slice V.rq.a m.rq.length V.rq.cap, .slice V.im.a m.im.length V.im.cap, .slice V.ep.a m.ep.length V.ep.cap, .slice V.st.a m.st.length V.st.cap, .slice V.ex.a m.ex.length V.ex.cap] 37))) := (Below.refl _ _).alloc (Nat.le_refl _) _
  have BOX : Hid (MdBox V m w.heap.size (w.alloc (.cells #[.slice V.rq.a m.rq.length V.rq.cap, .slice V.im.a m.im.length V.im.cap, .slice V.ep.a m.ep.length V.ep.cap, .slice V.st.a m.st.length V.st.cap, .slice V.ex.a m.ex.length V.ex.cap] 37))) := ⟨heap_alloc_new w _, hI.later HB0.out, hE.later HB0.out, hS.later HB0.out, hX.later HB0.out⟩
  have HS := hidI (alloc_size w (.cells #[.slice V.rq.a m.rq.length V.rq.cap, .slice V.im.a m.im.length V.im.cap, .slice V.ep.a m.ep.length V.ep.cap, .slice V.st.a m.st.length V.st.cap, .slice V.ex.a m.ex.length V.ex.cap] 37))
  clear hI hE hS hX
  obtain ⟨i0, hi, hz0, hz1, hz2⟩ := info_parts Try.infoES
  unfold modD
  go_enter Try.func41, Try.ntmps41
  go_wp2_with fail
  refine (l6Names_spec V m _ BOX.out.2.2.2.1 lS).mono ?_
  obtain ⟨W0, hW0⟩ : ∃ W0, W0 = w.alloc (.cells #[.slice V.rq.a m.rq.length V.rq.cap, .slice V.im.a m.im.length V.im.cap, .slice V.ep.a m.ep.length V.ep.cap, .slice V.st.a m.st.length V.st.cap, .slice V.ex.a m.ex.length V.ex.cap] 37) := ⟨_, rfl⟩
  rw [← hW0] at BOX HB0 HS ⊢
  clear hW0
  rintro e W1 ⟨r1, rfl, hp1⟩
  have HP1 := hidI hp1
  clear hp1
  go_wp2
  go_loopg [5, 6] m.im.length (fun k o i wr => ∃ (j : Nat) (r : Rw), o = .slice r.a (stN m.st ++ imN (m.im.take j)).length r.cap ∧ i = .int .i64 j ∧ j + k = m.im.length ∧ PB W0 wr r (stN m.st ++ imN (m.im.take j)))
  case atStart => exact ⟨0, r1, by simp [imN], rfl, by omega, by rw [List.take_zero]; show PB W0 W1 r1 (stN m.st ++ []); rw [List.append_nil]; exact HP1.out⟩
  case round =>
    clear HP1
    obtain ⟨j, r, rfl, rfl, hj, hp⟩ := hrel
    have HP := hidI hp
    clear hp
    have BX := hidI (BOX.out.later HP.out.1)
    obtain ⟨c0, c1, c2, c3, c4, cf⟩ := five_of BX.out.1
    by_cases hlt : j < m.im.length
    · have hlti : (j : Int) < (m.im.length : Int) := by omega
      obtain ⟨x, hx⟩ : ∃ x, m.im[j]? = some x := ⟨_, List.getElem?_eq_getElem hlt⟩
      obtain ⟨b, off, ha, hc⟩ := BX.out.2.1.get hx
      have KEY := hidI (imN_more hx)
      have d0 := hc 2 _ rfl
      rw [ha] at c1
      clear hc hx ha
      obtain ⟨n, hn⟩ : ∃ n, n = (stN m.st ++ imN (m.im.take j)).length := ⟨_, rfl⟩
      have HN := hidI hn
      have hnj : n ≤ 20000 := by rw [hn, List.length_append, imN, List.length_map, List.length_take]; have := stN_len m.st; omega
      rw [← hn]
      clear hn
      have OWN : Hid (∀ o, OwnR (wr.alloc o) W0.heap.size 9 1 r n ((stN m.st ++ imN (m.im.take j)).map .string)) := fun o => by
        rw [HN.out]
        exact (HP.out.below ((Below.refl _ _).alloc (Nat.le_refl _) o)).2
      have SZ := hidI HP.out.1.size
      obtain ⟨j1, hj1⟩ : ∃ j1, j1 = j + 1 := ⟨_, rfl⟩
      have ej : (j : Int) + 1 = (j1 : Int) := by omega
      have HJ := hidI hj1
      clear hj1
      go_wp2_with (first | (at_builtin; refine app_row _ rfl _ _ 22 rfl W0.heap.size 9 i0 _ 1 16 Try.underlying22 hi hz0 hz1 hz2 rfl (by decide) (by decide) r n _ rfl (OWN.out _) wr.heap.size [.string x.loc] rfl (heap_alloc_new _ _) rfl (str_ones _) (by omega) (by rw [alloc_size]; have := SZ.out; omega) ?_; intro r' w' hr' hg' _))
      have REL : Hid (∃ (j' : Nat) (r'' : Rw), Value.slice r'.a (n + 1) r'.cap = .slice r''.a (stN m.st ++ imN (m.im.take j')).length r''.cap ∧ Value.int .i64 (j1 : Int) = .int .i64 (j' : Int) ∧ j' + (gk - 1) = m.im.length ∧ PB W0 w' r'' (stN m.st ++ imN (m.im.take j'))) := by
        rw [HN.out] at hr'
        have hpb := (HP.out.below ((Below.refl _ _).alloc (Nat.le_refl _) _)).app hr' hg'
        refine ⟨j1, r', ?_, rfl, by have := HJ.out; omega, ?_⟩
        · rw [HN.out, HJ.out, KEY.out, ← List.append_assoc, len_snoc]
        · rw [HJ.out, KEY.out, ← List.append_assoc]
          exact hpb
      clear hr' hg' OWN HN HP c0 c1 c2 c3 c4 cf d0
      go_wp2
      go_roundg (gk - 1)
      case rel => exact REL.out
      case measure => omega
    · have hlti : ¬ (j : Int) < (m.im.length : Int) := by omega
      have hjl : m.im.take j = m.im := List.take_of_length_le (by omega)
      rw [hjl] at HP ⊢
      obtain ⟨L, hL⟩ : ∃ L, L = stN m.st ++ imN m.im := ⟨_, rfl⟩
      have HLD : Hid (declS m = L) := hL.symm
      rw [← hL] at HP ⊢
      have hLl : L.length ≤ 20000 := by rw [hL, List.length_append, imN, List.length_map]; have := stN_len m.st; omega
      obtain ⟨n, hn⟩ : ∃ n, n = L.length := ⟨_, rfl⟩
      have HN := hidI hn
      have hn2 : n ≤ 20000 := by omega
      rw [← hn]
      clear hL hn hLl hjl hj
      go_wp2_with fail
      refine (l6Twice_spec r.a r.cap n L _ HN.out HP.out.row (by omega) (by rw [HN.out]; exact HP.out.2.fits)).mono ?_
      rintro e W2 ⟨rfl, hb2⟩
      have HP2 := hidI (HP.out.below hb2)
      have BX2 := hidI (BX.out.later hb2)
      clear hb2 HP BX c0 c1 c2 c3 c4 cf
      cases htw : twB L with
      | true =>
        have HV : Hid (earlyS m = 1) := by show earlyS m = 1; rw [earlyS, HLD.out, htw]; rfl
        go_wp2
        go_ret
        exact ⟨ret_int HV.out.symm, HB0.out.trans (HP2.out.1.mono (by rw [HS.out]; omega))⟩
      | false =>
        have HTW := hidI htw
        have HBW := hidI (HB0.out.trans (HP2.out.1.mono (by rw [HS.out]; omega)))
        have RW2 := hidI HP2.out.row
        have PN := hidI (PB.nil W2)
        clear htw HP2 HB0 BOX
        go_upto_region 9 with fail
        refine world_anyI (R := fun W => PB W2 W ⟨some ⟨W2.heap.size, 0, none⟩, 0⟩ []) PN.out ?_
        clear PN
        intro W3 hp3
        have HP3 := hidI hp3
        clear hp3
        go_wp2
        go_loopg [7, 8, 9, 10] m.ep.length (fun k o u s i wr => ∃ (j : Nat) (r2 : Rw), o = .slice r2.a (epN (m.ep.take j)).length r2.cap ∧ u = .bool (unB L (m.ep.take j)) ∧ s = .bool (seB m.im (m.ep.take j)) ∧ i = .int .i64 j ∧ j + k = m.ep.length ∧ PB W2 wr r2 (epN (m.ep.take j)))
        case atStart => exact ⟨0, _, rfl, rfl, rfl, rfl, by omega, HP3.out⟩
        case round =>
          clear HP3
          obtain ⟨j, r2, rfl, rfl, rfl, rfl, hj, hp⟩ := hrel
          have HP := hidI hp
          clear hp
          have BX := hidI (BX2.out.later HP.out.1)
          obtain ⟨c0, c1, c2, c3, c4, cf⟩ := five_of BX.out.1
          by_cases hlt : j < m.ep.length
          · have hlti : (j : Int) < (m.ep.length : Int) := by omega
            obtain ⟨x, hx⟩ : ∃ x, m.ep[j]? = some x := ⟨_, List.getElem?_eq_getElem hlt⟩
            obtain ⟨b, off, ha, hc⟩ := BX.out.2.2.1.get hx
            have KN := hidI (epN_more hx)
            have KU : Hid (unB L (m.ep.take (j + 1)) = (unB L (m.ep.take j) || (x.kind == 1 && (!(x.loc.toList == dN) && !inL L x.loc)))) := any_more hx
            have KS : Hid (seB m.im (m.ep.take (j + 1)) = (seB m.im (m.ep.take j) || (x.kind == 1 && spB m.im x.loc))) := any_more hx
            have d0 := hc 0 _ rfl
            have d1 := hc 1 _ rfl
            have d2 := hc 2 _ rfl
            have d3 := hc 3 _ rfl
            simp only [Nat.add_zero] at d0
            rw [ha] at c2
            clear hc hx
            obtain ⟨n2, hn2'⟩ : ∃ n2, n2 = (epN (m.ep.take j)).length := ⟨_, rfl⟩
            have HN2 := hidI hn2'
            have hnj : n2 ≤ 20000 := by rw [hn2']; have := epN_len (m.ep.take j); rw [List.length_take] at this; omega
            obtain ⟨u, hu⟩ : ∃ u, u = unB L (m.ep.take j) := ⟨_, rfl⟩
            obtain ⟨s, hs⟩ : ∃ s, s = seB m.im (m.ep.take j) := ⟨_, rfl⟩
            obtain ⟨j1, hj1⟩ : ∃ j1, j1 = j + 1 := ⟨_, rfl⟩
            have ej : (j : Int) + 1 = (j1 : Int) := by omega
            rw [← hn2', ← hu, ← hs]
            rw [← hu] at KU
            rw [← hs] at KS
            have FIN : Hid (∀ (r' : Rw) (n' : Nat) (u' s' : Bool) (w' : World), n' = (epN (m.ep.take (j + 1))).length → u' = unB L (m.ep.take (j + 1)) → s' = seB m.im (m.ep.take (j + 1)) → PB W2 w' r' (epN (m.ep.take (j + 1))) →
                ∃ (j' : Nat) (r2 : Rw), Value.slice r'.a n' r'.cap = .slice r2.a (epN (m.ep.take j')).length r2.cap ∧ Value.bool u' = .bool (unB L (m.ep.take j')) ∧ Value.bool s' = .bool (seB m.im (m.ep.take j')) ∧ Value.int .i64 (j1 : Int) = .int .i64 (j' : Int) ∧ j' + (gk - 1) = m.ep.length ∧ PB W2 w' r2 (epN (m.ep.take j'))) := fun r' n' u' s' w' h1 h2 h3 h4 => by
              refine ⟨j1, r', ?_, ?_, ?_, rfl, by omega, ?_⟩
              · rw [hj1, h1]
              · rw [hj1, h2]
              · rw [hj1, h3]
              · rw [hj1]
                exact h4
            clear hn2' hu hs hj1
            go_upto_region 15 with fail
            refine world_anyI (R := fun W => PB W2 W r2 (epN (m.ep.take j)) ∧ W.heap[wr.heap.size]? = some (.cells (epL x).toArray 79 (0, 0))) ?_ ?_
            · exact ⟨HP.out.below ((Below.refl _ _).alloc (Nat.le_refl _) _), heap_alloc_new wr _⟩
            obtain ⟨bs, hbs⟩ : ∃ bs, bs = wr.heap.size := ⟨_, rfl⟩
            rw [← hbs]
            have NEQ : Hid (∀ k, r2.blk = some k → k ≠ bs) := fun k hk e => by have := (HP.out.2.typed hk).2.1; omega
            clear c0 c1 c2 c3 c4 cf d0 d1 d2 d3 hbs HP BX ha
            rintro W4 ⟨hp4, hx4⟩
            have HP4 := hidI hp4
            have HX4 := hidI hx4
            obtain ⟨e0, e1, e2, e3, ef⟩ := four_of hx4
            have hlt4 := (Array.getElem?_eq_some_iff.1 hx4).1
            clear hp4 hx4
            cases k3 : (x.kind == 3) with
            | true =>
              have k1 : (x.kind == 1) = false := by rw [eq_of_beq k3]; rfl
              have REL := hidI (FIN.out r2 n2 u s W4 (by rw [KN.out, k3, if_pos rfl]; exact HN2.out) (by rw [KU.out, k1]; simp) (by rw [KS.out, k1]; simp) (by rw [KN.out, k3, if_pos rfl]; exact HP4.out))
              clear FIN KN KU KS HN2 HP4 HX4
              go_wp2
              go_roundg (gk - 1)
              case rel => exact REL.out
              case measure => omega
            | false =>
              have OWN : Hid (∀ o, OwnR (W4.alloc o) W2.heap.size 9 1 r2 n2 ((epN (m.ep.take j)).map .string)) := fun o => by
                rw [HN2.out]
                exact (HP4.out.below ((Below.refl _ _).alloc (Nat.le_refl _) o)).2
              have SZ := hidI HP4.out.1.size
              cases k1 : (x.kind == 1) with
              | false =>
                go_wp2_with (first | (at_builtin; refine app_row _ rfl _ _ 22 rfl W2.heap.size 9 i0 _ 1 16 Try.underlying22 hi hz0 hz1 hz2 rfl (by decide) (by decide) r2 n2 _ rfl (OWN.out _) W4.heap.size [.string x.name] rfl (heap_alloc_new _ _) rfl (str_ones _) (by omega) (by rw [alloc_size]; have := SZ.out; omega) ?_; intro r' W5 hr' hg' _; have XB : Hid (W5.heap[bs]? = some (.cells (epL x).toArray 79 (0, 0))) := (hg'.block bs (by rw [alloc_size]; omega) (fun e => NEQ.out bs e.symm rfl)).trans ((heap_alloc_old _ _ hlt4).trans HX4.out); clear e0 e1 e2 e3 ef; obtain ⟨e0, e1, e2, e3, ef⟩ := four_of XB.out))
                rw [HN2.out] at hr'
                have HP5 : Hid (PB W2 W5 r' (epN (m.ep.take (j + 1)))) := by show PB _ _ _ _; rw [KN.out, k3, if_neg Bool.false_ne_true]; exact (HP4.out.below ((Below.refl _ _).alloc (Nat.le_refl _) _)).app hr' hg'
                have HNN : Hid (n2 + 1 = (epN (m.ep.take (j + 1))).length) := by show _ = _; rw [KN.out, k3, if_neg Bool.false_ne_true, len_snoc, HN2.out]
                have REL := hidI (FIN.out r' (n2 + 1) u s W5 HNN.out (by rw [KU.out, k1]; simp) (by rw [KS.out, k1]; simp) HP5.out)
                clear FIN KN KU KS HN2 HP4 HX4 HP5 HNN OWN hr' hg'
                go_wp2
                go_roundg (gk - 1)
                case rel => exact REL.out
                case measure => omega
              | true =>
                have GRO : Hid (∀ (r' : Rw) (w' : World) (o : Obj), OwnR w' W2.heap.size 9 1 r' (n2 + 1) ((epN (m.ep.take j)).map .string ++ [.string x.name]) → (W4.alloc o).grownBy w' r2.blk → PB W2 w' r' (epN (m.ep.take (j + 1)))) := fun r' w' o hr' hg' => by
                  rw [HN2.out] at hr'
                  rw [KN.out, k3, if_neg Bool.false_ne_true]
                  exact (HP4.out.below ((Below.refl _ _).alloc (Nat.le_refl _) _)).app hr' hg'
                have HNN : Hid (n2 + 1 = (epN (m.ep.take (j + 1))).length) := by show _ = _; rw [KN.out, k3, if_neg Bool.false_ne_true, len_snoc, HN2.out]
                cases u with
                | true =>
                  cases s with
                  | true =>
                    go_wp2_with (first | (at_builtin; refine app_row _ rfl _ _ 22 rfl W2.heap.size 9 i0 _ 1 16 Try.underlying22 hi hz0 hz1 hz2 rfl (by decide) (by decide) r2 n2 _ rfl (OWN.out _) W4.heap.size [.string x.name] rfl (heap_alloc_new _ _) rfl (str_ones _) (by omega) (by rw [alloc_size]; have := SZ.out; omega) ?_; intro r' W5 hr' hg' _; have XB : Hid (W5.heap[bs]? = some (.cells (epL x).toArray 79 (0, 0))) := (hg'.block bs (by rw [alloc_size]; omega) (fun e => NEQ.out bs e.symm rfl)).trans ((heap_alloc_old _ _ hlt4).trans HX4.out); clear e0 e1 e2 e3 ef; obtain ⟨e0, e1, e2, e3, ef⟩ := four_of XB.out; have HP5 := hidI (GRO.out r' W5 _ hr' hg'); have BX5 := hidI (BX2.out.later HP5.out.1); obtain ⟨c0, c1, c2, c3, c4, cf⟩ := five_of BX5.out.1; have RW5 := hidI (RW2.out.later HP5.out.1); clear hr' hg'))
                    have REL := hidI (FIN.out r' (n2 + 1) (true) (true) W5 HNN.out (by rw [KU.out, k1]; simp) (by rw [KS.out, k1]; simp) HP5.out)
                    clear FIN KN KU KS HN2 HP4 HX4 HP5 HNN OWN GRO BX5 RW5 c0 c1 c2 c3 c4 cf e0 e1 e2 e3 ef
                    go_wp2
                    go_roundg (gk - 1)
                    case rel => exact REL.out
                    case measure => omega
                  | false =>
                    go_wp2_with (first | (at_builtin; refine app_row _ rfl _ _ 22 rfl W2.heap.size 9 i0 _ 1 16 Try.underlying22 hi hz0 hz1 hz2 rfl (by decide) (by decide) r2 n2 _ rfl (OWN.out _) W4.heap.size [.string x.name] rfl (heap_alloc_new _ _) rfl (str_ones _) (by omega) (by rw [alloc_size]; have := SZ.out; omega) ?_; intro r' W5 hr' hg' _; have XB : Hid (W5.heap[bs]? = some (.cells (epL x).toArray 79 (0, 0))) := (hg'.block bs (by rw [alloc_size]; omega) (fun e => NEQ.out bs e.symm rfl)).trans ((heap_alloc_old _ _ hlt4).trans HX4.out); clear e0 e1 e2 e3 ef; obtain ⟨e0, e1, e2, e3, ef⟩ := four_of XB.out; have HP5 := hidI (GRO.out r' W5 _ hr' hg'); have BX5 := hidI (BX2.out.later HP5.out.1); obtain ⟨c0, c1, c2, c3, c4, cf⟩ := five_of BX5.out.1; have RW5 := hidI (RW2.out.later HP5.out.1); clear hr' hg') | (go_at_call 107; refine (l6Space_spec V m _ _ BX5.out.2.1 (by omega)).mono ?_; rintro e W6 ⟨rfl, hb6⟩; have HB6 := hidI hb6; clear hb6))
                    have REL := hidI (FIN.out r' (n2 + 1) (true) (spB m.im x.loc) W6 HNN.out (by rw [KU.out, k1]; simp) (by rw [KS.out, k1]; simp) (HP5.out.below HB6.out))
                    clear FIN KN KU KS HN2 HP4 HX4 HP5 HNN OWN GRO BX5 RW5 c0 c1 c2 c3 c4 cf e0 e1 e2 e3 ef
                    go_wp2
                    go_roundg (gk - 1)
                    case rel => exact REL.out
                    case measure => omega
                | false =>
                  cases kd : (x.loc.toList == dN) with
                  | true =>
                    cases s with
                    | true =>
                      go_wp2_with (first | (at_builtin; refine app_row _ rfl _ _ 22 rfl W2.heap.size 9 i0 _ 1 16 Try.underlying22 hi hz0 hz1 hz2 rfl (by decide) (by decide) r2 n2 _ rfl (OWN.out _) W4.heap.size [.string x.name] rfl (heap_alloc_new _ _) rfl (str_ones _) (by omega) (by rw [alloc_size]; have := SZ.out; omega) ?_; intro r' W5 hr' hg' _; have XB : Hid (W5.heap[bs]? = some (.cells (epL x).toArray 79 (0, 0))) := (hg'.block bs (by rw [alloc_size]; omega) (fun e => NEQ.out bs e.symm rfl)).trans ((heap_alloc_old _ _ hlt4).trans HX4.out); clear e0 e1 e2 e3 ef; obtain ⟨e0, e1, e2, e3, ef⟩ := four_of XB.out; have HP5 := hidI (GRO.out r' W5 _ hr' hg'); have BX5 := hidI (BX2.out.later HP5.out.1); obtain ⟨c0, c1, c2, c3, c4, cf⟩ := five_of BX5.out.1; have RW5 := hidI (RW2.out.later HP5.out.1); clear hr' hg'))
                      have REL := hidI (FIN.out r' (n2 + 1) (false) (true) W5 HNN.out (by rw [KU.out, k1, kd]; simp) (by rw [KS.out, k1]; simp) HP5.out)
                      clear FIN KN KU KS HN2 HP4 HX4 HP5 HNN OWN GRO BX5 RW5 c0 c1 c2 c3 c4 cf e0 e1 e2 e3 ef
                      go_wp2
                      go_roundg (gk - 1)
                      case rel => exact REL.out
                      case measure => omega
                    | false =>
                      go_wp2_with (first | (at_builtin; refine app_row _ rfl _ _ 22 rfl W2.heap.size 9 i0 _ 1 16 Try.underlying22 hi hz0 hz1 hz2 rfl (by decide) (by decide) r2 n2 _ rfl (OWN.out _) W4.heap.size [.string x.name] rfl (heap_alloc_new _ _) rfl (str_ones _) (by omega) (by rw [alloc_size]; have := SZ.out; omega) ?_; intro r' W5 hr' hg' _; have XB : Hid (W5.heap[bs]? = some (.cells (epL x).toArray 79 (0, 0))) := (hg'.block bs (by rw [alloc_size]; omega) (fun e => NEQ.out bs e.symm rfl)).trans ((heap_alloc_old _ _ hlt4).trans HX4.out); clear e0 e1 e2 e3 ef; obtain ⟨e0, e1, e2, e3, ef⟩ := four_of XB.out; have HP5 := hidI (GRO.out r' W5 _ hr' hg'); have BX5 := hidI (BX2.out.later HP5.out.1); obtain ⟨c0, c1, c2, c3, c4, cf⟩ := five_of BX5.out.1; have RW5 := hidI (RW2.out.later HP5.out.1); clear hr' hg') | (go_at_call 107; refine (l6Space_spec V m _ _ BX5.out.2.1 (by omega)).mono ?_; rintro e W6 ⟨rfl, hb6⟩; have HB6 := hidI hb6; clear hb6))
                      have REL := hidI (FIN.out r' (n2 + 1) (false) (spB m.im x.loc) W6 HNN.out (by rw [KU.out, k1, kd]; simp) (by rw [KS.out, k1]; simp) (HP5.out.below HB6.out))
                      clear FIN KN KU KS HN2 HP4 HX4 HP5 HNN OWN GRO BX5 RW5 c0 c1 c2 c3 c4 cf e0 e1 e2 e3 ef
                      go_wp2
                      go_roundg (gk - 1)
                      case rel => exact REL.out
                      case measure => omega
                  | false =>
                    cases s with
                    | true =>
                      go_wp2_with (first | (at_builtin; refine app_row _ rfl _ _ 22 rfl W2.heap.size 9 i0 _ 1 16 Try.underlying22 hi hz0 hz1 hz2 rfl (by decide) (by decide) r2 n2 _ rfl (OWN.out _) W4.heap.size [.string x.name] rfl (heap_alloc_new _ _) rfl (str_ones _) (by omega) (by rw [alloc_size]; have := SZ.out; omega) ?_; intro r' W5 hr' hg' _; have XB : Hid (W5.heap[bs]? = some (.cells (epL x).toArray 79 (0, 0))) := (hg'.block bs (by rw [alloc_size]; omega) (fun e => NEQ.out bs e.symm rfl)).trans ((heap_alloc_old _ _ hlt4).trans HX4.out); clear e0 e1 e2 e3 ef; obtain ⟨e0, e1, e2, e3, ef⟩ := four_of XB.out; have HP5 := hidI (GRO.out r' W5 _ hr' hg'); have BX5 := hidI (BX2.out.later HP5.out.1); obtain ⟨c0, c1, c2, c3, c4, cf⟩ := five_of BX5.out.1; have RW5 := hidI (RW2.out.later HP5.out.1); clear hr' hg') | (go_at_call 106; refine (l6In_spec r.a r.cap n L _ _ HN.out RW5.out (by omega)).mono ?_; rintro e w' ⟨rfl, rfl⟩))
                      have REL := hidI (FIN.out r' (n2 + 1) (!inL L x.loc) (true) w' HNN.out (by rw [KU.out, k1, kd]; simp) (by rw [KS.out, k1]; simp) HP5.out)
                      clear FIN KN KU KS HN2 HP4 HX4 HP5 HNN OWN GRO BX5 RW5 c0 c1 c2 c3 c4 cf e0 e1 e2 e3 ef
                      go_wp2
                      go_roundg (gk - 1)
                      case rel => exact REL.out
                      case measure => omega
                    | false =>
                      go_wp2_with (first | (at_builtin; refine app_row _ rfl _ _ 22 rfl W2.heap.size 9 i0 _ 1 16 Try.underlying22 hi hz0 hz1 hz2 rfl (by decide) (by decide) r2 n2 _ rfl (OWN.out _) W4.heap.size [.string x.name] rfl (heap_alloc_new _ _) rfl (str_ones _) (by omega) (by rw [alloc_size]; have := SZ.out; omega) ?_; intro r' W5 hr' hg' _; have XB : Hid (W5.heap[bs]? = some (.cells (epL x).toArray 79 (0, 0))) := (hg'.block bs (by rw [alloc_size]; omega) (fun e => NEQ.out bs e.symm rfl)).trans ((heap_alloc_old _ _ hlt4).trans HX4.out); clear e0 e1 e2 e3 ef; obtain ⟨e0, e1, e2, e3, ef⟩ := four_of XB.out; have HP5 := hidI (GRO.out r' W5 _ hr' hg'); have BX5 := hidI (BX2.out.later HP5.out.1); obtain ⟨c0, c1, c2, c3, c4, cf⟩ := five_of BX5.out.1; have RW5 := hidI (RW2.out.later HP5.out.1); clear hr' hg') | (go_at_call 106; refine (l6In_spec r.a r.cap n L _ _ HN.out RW5.out (by omega)).mono ?_; rintro e w' ⟨rfl, rfl⟩) | (go_at_call 107; refine (l6Space_spec V m _ _ BX5.out.2.1 (by omega)).mono ?_; rintro e W6 ⟨rfl, hb6⟩; have HB6 := hidI hb6; clear hb6))
                      have REL := hidI (FIN.out r' (n2 + 1) (!inL L x.loc) (spB m.im x.loc) W6 HNN.out (by rw [KU.out, k1, kd]; simp) (by rw [KS.out, k1]; simp) (HP5.out.below HB6.out))
                      clear FIN KN KU KS HN2 HP4 HX4 HP5 HNN OWN GRO BX5 RW5 c0 c1 c2 c3 c4 cf e0 e1 e2 e3 ef
                      go_wp2
                      go_roundg (gk - 1)
                      case rel => exact REL.out
                      case measure => omega
          · have hlti : ¬ (j : Int) < (m.ep.length : Int) := by omega
            have hjl : m.ep.take j = m.ep := List.take_of_length_le (by omega)
            rw [hjl] at HP ⊢
            have HLE := hidI (HP.out.2)
            have HBE := hidI (HBW.out.trans (HP.out.1.mono HBW.out.size))
            obtain ⟨n2, hn2'⟩ : ∃ n2, n2 = (epN m.ep).length := ⟨_, rfl⟩
            have HN2 := hidI hn2'
            have hnj : n2 ≤ 20000 := by rw [hn2']; have := epN_len m.ep; omega
            obtain ⟨u, hu⟩ : ∃ u, u = unB L m.ep := ⟨_, rfl⟩
            have HU := hidI hu
            obtain ⟨s0, hs0⟩ : ∃ s, s = seB m.im m.ep := ⟨_, rfl⟩
            have HS0 := hidI hs0
            have ROW2 := hidI HP.out.row
            have CAP2 : Hid (n2 ≤ r2.cap) := by rw [hn2']; exact HP.out.2.fits
            rw [← hn2', ← hu, ← hs0]
            clear hn2' hu hs0 hjl HP HLE RW2 BX2 HBW HN
            go_wp2
            go_loopg [9, 12, 13] m.ex.length (fun k s me i wr2 => ∃ j : Nat, s = .bool (s0 || sxB m.im (m.ex.take j)) ∧ me = .bool (mxB m.im (m.ex.take j)) ∧ i = .int .i64 j ∧ j + k = m.ex.length ∧ Below wr.heap.size wr wr2)
            case atStart => exact ⟨0, by simp [sxB], rfl, rfl, by omega, Below.refl _ _⟩
            case round =>
              obtain ⟨j, rfl, rfl, rfl, hj, hb⟩ := hrel
              have HB := hidI hb
              clear hb
              have BX3 := hidI (BX.out.later HB.out)
              clear c0 c1 c2 c3 c4 cf
              obtain ⟨c0, c1, c2, c3, c4, cf⟩ := five_of BX3.out.1
              by_cases hlt : j < m.ex.length
              · have hlti : (j : Int) < (m.ex.length : Int) := by omega
                obtain ⟨x, hx⟩ : ∃ x, m.ex[j]? = some x := ⟨_, List.getElem?_eq_getElem hlt⟩
                obtain ⟨b, off, ha, hc⟩ := BX3.out.2.2.2.2.get hx
                have KS : Hid (sxB m.im (m.ex.take (j + 1)) = (sxB m.im (m.ex.take j) || ((x.kind == 2 || x.kind == 3) && spB m.im x.name))) := any_more hx
                have KM : Hid (mxB m.im (m.ex.take (j + 1)) = (mxB m.im (m.ex.take j) || ((x.kind == 4 || x.kind == 5) && !spB m.im x.name))) := any_more hx
                have d0 := hc 0 _ rfl
                have d1 := hc 1 _ rfl
                have d2 := hc 2 _ rfl
                have d3 := hc 3 _ rfl
                have d4 := hc 4 _ rfl
                have d5 := hc 5 _ rfl
                simp only [Nat.add_zero] at d0
                rw [ha] at c4
                clear hc hx ha
                obtain ⟨s, hs⟩ : ∃ s, s = (s0 || sxB m.im (m.ex.take j)) := ⟨_, rfl⟩
                obtain ⟨me, hme⟩ : ∃ me, me = mxB m.im (m.ex.take j) := ⟨_, rfl⟩
                obtain ⟨j1, hj1⟩ : ∃ j1, j1 = j + 1 := ⟨_, rfl⟩
                have ej : (j : Int) + 1 = (j1 : Int) := by omega
                rw [← hs, ← hme]
                have FIN : Hid (∀ (s' me' : Bool) (w' : World), s' = (s || ((x.kind == 2 || x.kind == 3) && spB m.im x.name)) → me' = (me || ((x.kind == 4 || x.kind == 5) && !spB m.im x.name)) → Below wr.heap.size wr w' →
                    ∃ j' : Nat, Value.bool s' = .bool (s0 || sxB m.im (m.ex.take j')) ∧ Value.bool me' = .bool (mxB m.im (m.ex.take j')) ∧ Value.int .i64 (j1 : Int) = .int .i64 (j' : Int) ∧ j' + (gk - 1) = m.ex.length ∧ Below _ _ w') := fun s' me' w' h1 h2 h3 => by
                  refine ⟨j1, ?_, ?_, rfl, by omega, HB.out.trans (h3.mono HB.out.size)⟩
                  · rw [hj1, KS.out, h1, hs, Bool.or_assoc]
                  · rw [hj1, KM.out, h2, hme]
                clear hs hme hj1 KS KM
                go_upto_region 25 with fail
                refine world_anyI (R := fun W => Below wr.heap.size wr W ∧ W.heap[wr.heap.size]? = some (.cells (exL x).toArray 96 (0, 0))) ⟨(Below.refl _ _).alloc (Nat.le_refl _) _, heap_alloc_new wr _⟩ ?_
                obtain ⟨bs, hbs⟩ : ∃ bs, bs = wr.heap.size := ⟨_, rfl⟩
                rw [← hbs]
                have HBS := hidI hbs
                clear c0 c1 c2 c3 c4 cf d0 d1 d2 d3 d4 d5 hbs
                rintro W4 ⟨hb4, hx4⟩
                rw [HBS.out] at hb4
                have HB4 := hidI hb4
                have BX4 := hidI (BX3.out.later hb4)
                obtain ⟨c0, c1, c2, c3, c4, cf⟩ := five_of BX4.out.1
                obtain ⟨e0, e1, e2, e3, e4, e5, ef⟩ := six_of hx4
                have hlt4 := (Array.getElem?_eq_some_iff.1 hx4).1
                clear hb4 hx4 BX3
                cases q2 : (x.kind == 2) with
                | true =>
                  have q := q2
                  clear q2
                  have q2 : (x.kind == 2) = true := by rw [eq_of_beq q]; rfl
                  have q3 : (x.kind == 3) = false := by rw [eq_of_beq q]; rfl
                  have q4 : (x.kind == 4) = false := by rw [eq_of_beq q]; rfl
                  have q5 : (x.kind == 5) = false := by rw [eq_of_beq q]; rfl
                  clear q
                  cases s with
                  | true =>
                    have REL := hidI (FIN.out (true) (me) W4 (by rw [q2, q3]; simp) (by rw [q4, q5]; simp) HB4.out)
                    clear FIN
                    go_wp2
                    go_roundg (gk - 1)
                    case rel => exact REL.out
                    case measure => omega
                  | false =>
                    go_wp2_with (first | (go_at_call 107; refine (l6Space_spec V m _ _ BX4.out.2.1 (by omega)).mono ?_; rintro e W6 ⟨rfl, hb6⟩; have HB6 := hidI hb6; clear hb6))
                    have REL := hidI (FIN.out (spB m.im x.name) (me) W6 (by rw [q2, q3]; simp) (by rw [q4, q5]; simp) (HB4.out.trans (HB6.out.mono HB4.out.size)))
                    go_roundg (gk - 1)
                    case rel => exact REL.out
                    case measure => omega
                | false =>
                  cases q3 : (x.kind == 3) with
                  | true =>
                    have q := q3
                    clear q2 q3
                    have q2 : (x.kind == 2) = false := by rw [eq_of_beq q]; rfl
                    have q3 : (x.kind == 3) = true := by rw [eq_of_beq q]; rfl
                    have q4 : (x.kind == 4) = false := by rw [eq_of_beq q]; rfl
                    have q5 : (x.kind == 5) = false := by rw [eq_of_beq q]; rfl
                    clear q
                    cases s with
                    | true =>
                      have REL := hidI (FIN.out (true) (me) W4 (by rw [q2, q3]; simp) (by rw [q4, q5]; simp) HB4.out)
                      clear FIN
                      go_wp2
                      go_roundg (gk - 1)
                      case rel => exact REL.out
                      case measure => omega
                    | false =>
                      go_wp2_with (first | (go_at_call 107; refine (l6Space_spec V m _ _ BX4.out.2.1 (by omega)).mono ?_; rintro e W6 ⟨rfl, hb6⟩; have HB6 := hidI hb6; clear hb6))
                      have REL := hidI (FIN.out (spB m.im x.name) (me) W6 (by rw [q2, q3]; simp) (by rw [q4, q5]; simp) (HB4.out.trans (HB6.out.mono HB4.out.size)))
                      go_roundg (gk - 1)
                      case rel => exact REL.out
                      case measure => omega
                  | false =>
                    cases q4 : (x.kind == 4) with
                    | true =>
                      have q := q4
                      clear q2 q3 q4
                      have q2 : (x.kind == 2) = false := by rw [eq_of_beq q]; rfl
                      have q3 : (x.kind == 3) = false := by rw [eq_of_beq q]; rfl
                      have q4 : (x.kind == 4) = true := by rw [eq_of_beq q]; rfl
                      have q5 : (x.kind == 5) = false := by rw [eq_of_beq q]; rfl
                      clear q
                      cases me with
                      | true =>
                        have REL := hidI (FIN.out (s) (true) W4 (by rw [q2, q3]; simp) (by rw [q4, q5]; simp) HB4.out)
                        clear FIN
                        go_wp2
                        go_roundg (gk - 1)
                        case rel => exact REL.out
                        case measure => omega
                      | false =>
                        go_wp2_with (first | (go_at_call 107; refine (l6Space_spec V m _ _ BX4.out.2.1 (by omega)).mono ?_; rintro e W6 ⟨rfl, hb6⟩; have HB6 := hidI hb6; clear hb6))
                        have REL := hidI (FIN.out (s) (!spB m.im x.name) W6 (by rw [q2, q3]; simp) (by rw [q4, q5]; simp) (HB4.out.trans (HB6.out.mono HB4.out.size)))
                        go_roundg (gk - 1)
                        case rel => exact REL.out
                        case measure => omega
                    | false =>
                      cases q5 : (x.kind == 5) with
                      | true =>
                        have q := q5
                        clear q2 q3 q4 q5
                        have q2 : (x.kind == 2) = false := by rw [eq_of_beq q]; rfl
                        have q3 : (x.kind == 3) = false := by rw [eq_of_beq q]; rfl
                        have q4 : (x.kind == 4) = false := by rw [eq_of_beq q]; rfl
                        have q5 : (x.kind == 5) = true := by rw [eq_of_beq q]; rfl
                        clear q
                        cases me with
                        | true =>
                          have REL := hidI (FIN.out (s) (true) W4 (by rw [q2, q3]; simp) (by rw [q4, q5]; simp) HB4.out)
                          clear FIN
                          go_wp2
                          go_roundg (gk - 1)
                          case rel => exact REL.out
                          case measure => omega
                        | false =>
                          go_wp2_with (first | (go_at_call 107; refine (l6Space_spec V m _ _ BX4.out.2.1 (by omega)).mono ?_; rintro e W6 ⟨rfl, hb6⟩; have HB6 := hidI hb6; clear hb6))
                          have REL := hidI (FIN.out (s) (!spB m.im x.name) W6 (by rw [q2, q3]; simp) (by rw [q4, q5]; simp) (HB4.out.trans (HB6.out.mono HB4.out.size)))
                          go_roundg (gk - 1)
                          case rel => exact REL.out
                          case measure => omega
                      | false =>
                        have REL := hidI (FIN.out (s) (me) W4 (by rw [q2, q3]; simp) (by rw [q4, q5]; simp) HB4.out)
                        clear FIN
                        go_wp2
                        go_roundg (gk - 1)
                        case rel => exact REL.out
                        case measure => omega
              · have hlti : ¬ (j : Int) < (m.ex.length : Int) := by omega
                have hjl : m.ex.take j = m.ex := List.take_of_length_le (by omega)
                rw [hjl]
                obtain ⟨s1, hs1⟩ : ∃ s, s = (s0 || sxB m.im m.ex) := ⟨_, rfl⟩
                have HS1 := hidI hs1
                obtain ⟨me, hme⟩ : ∃ me, me = mxB m.im m.ex := ⟨_, rfl⟩
                have HME := hidI hme
                have HB9 := hidI (HBE.out.trans (HB.out.mono HBE.out.size))
                have ROW9 := hidI (ROW2.out.later HB.out)
                rw [← hs1, ← hme]
                clear hs1 hme hjl HB BX HBE ROW2
                go_wp2
                go_loopg [9, 15] m.st.length (fun k s i wr2 => ∃ j : Nat, s = .bool (s1 || ssB m.im (m.st.take j)) ∧ i = .int .i64 j ∧ j + k = m.st.length ∧ Below wr.heap.size wr wr2)
                case atStart => exact ⟨0, by simp [ssB], rfl, by omega, Below.refl _ _⟩
                case round =>
                  obtain ⟨j, rfl, rfl, hj, hb⟩ := hrel
                  have HB := hidI hb
                  clear hb
                  have BX4 := hidI (BX3.out.later HB.out)
                  clear c0 c1 c2 c3 c4 cf
                  obtain ⟨c0, c1, c2, c3, c4, cf⟩ := five_of BX4.out.1
                  by_cases hlt : j < m.st.length
                  · have hlti : (j : Int) < (m.st.length : Int) := by omega
                    obtain ⟨x, hx⟩ : ∃ x, m.st[j]? = some x := ⟨_, List.getElem?_eq_getElem hlt⟩
                    obtain ⟨b, off, ha, hc⟩ := BX4.out.2.2.2.1.get hx
                    have KS : Hid (ssB m.im (m.st.take (j + 1)) = (ssB m.im (m.st.take j) || (x.kind == 3 && spB m.im x.name))) := any_more hx
                    have d0 := hc 0 _ rfl
                    have d1 := hc 1 _ rfl
                    simp only [Nat.add_zero] at d0
                    have HA := hidI ha
                    rw [ha] at c3
                    clear hc hx ha
                    obtain ⟨s, hs⟩ : ∃ s, s = (s1 || ssB m.im (m.st.take j)) := ⟨_, rfl⟩
                    obtain ⟨j1, hj1⟩ : ∃ j1, j1 = j + 1 := ⟨_, rfl⟩
                    have ej : (j : Int) + 1 = (j1 : Int) := by omega
                    rw [← hs]
                    have FIN : Hid (∀ (s' : Bool) (w' : World), s' = (s || (x.kind == 3 && spB m.im x.name)) → Below wr.heap.size wr w' →
                        ∃ j' : Nat, Value.bool s' = .bool (s1 || ssB m.im (m.st.take j')) ∧ Value.int .i64 (j1 : Int) = .int .i64 (j' : Int) ∧ j' + (gk - 1) = m.st.length ∧ Below _ _ w') := fun s' w' h1 h3 => by
                      refine ⟨j1, ?_, rfl, by omega, HB.out.trans (h3.mono HB.out.size)⟩
                      rw [hj1, KS.out, h1, hs, Bool.or_assoc]
                    clear hs hj1 KS
                    have C0 := hidI c0
                    have C1 := hidI c1
                    have C2 := hidI c2
                    have C3 := hidI c3
                    have C4 := hidI c4
                    have D0 := hidI d0
                    have D1 := hidI d1
                    have cQ : ∀ d os, Calls Try.prog 107 #[modD V m, .string x.name] (grow (redrawn wr d) os) fun e w'' => e = .returned (.bool (spB m.im x.name)) ∧ ∃ p : Regrown, w'' = grow (redrawn wr p.d) p.os :=
                      fun d os => Calls.regrown_of (l6Space_spec V m _ _ (BX4.out.2.1.later (below_regrown wr d os)) (by omega))
                    unfold modD at cQ
                    rw [HA.out] at cQ
                    cases s with
                    | true =>
                      go_wp2_with fail
                      clear c0 c1 c2 c3 c4 d0 d1
                      have f0 := cell_regrown C0.out
                      have f1 := cell_regrown C1.out
                      have f2 := cell_regrown C2.out
                      have f3 := cell_regrown C3.out
                      have f4 := cell_regrown C4.out
                      have g0 := cell_regrown D0.out
                      have g1 := cell_regrown D1.out
                      refine wp_region_quiet_below (by kernel_rfl) (by kernel_rfl) ?_
                      repeat (go_big_quiet_step (exact cQ _ _))
                      refine wpQuiet_nil ?_
                      intro w9 hw'
                      have HB9' : Hid (Below wr.heap.size wr w9) := by obtain ⟨⟨dq, osq⟩, hw''⟩ := hw'; show Below _ _ _; rw [hw'']; exact below_regrown wr dq osq
                      have REL := hidI (FIN.out (true) w9 (by simp) HB9'.out)
                      clear FIN hw' f0 f1 f2 f3 f4 g0 g1 cQ
                      go_wp2
                      go_roundg (gk - 1)
                      case rel => exact REL.out
                      case measure => omega
                    | false =>
                      cases k3 : (x.kind == 3) with
                      | false =>
                        go_wp2_with fail
                        clear c0 c1 c2 c3 c4 d0 d1
                        have f0 := cell_regrown C0.out
                        have f1 := cell_regrown C1.out
                        have f2 := cell_regrown C2.out
                        have f3 := cell_regrown C3.out
                        have f4 := cell_regrown C4.out
                        have g0 := cell_regrown D0.out
                        have g1 := cell_regrown D1.out
                        refine wp_region_quiet_below (by kernel_rfl) (by kernel_rfl) ?_
                        repeat (go_big_quiet_step (exact cQ _ _))
                        refine wpQuiet_nil ?_
                        intro w9 hw'
                        have HB9' : Hid (Below wr.heap.size wr w9) := by obtain ⟨⟨dq, osq⟩, hw''⟩ := hw'; show Below _ _ _; rw [hw'']; exact below_regrown wr dq osq
                        have REL := hidI (FIN.out (false) w9 (by rw [k3]; simp) HB9'.out)
                        clear FIN hw' f0 f1 f2 f3 f4 g0 g1 cQ
                        go_wp2
                        go_roundg (gk - 1)
                        case rel => exact REL.out
                        case measure => omega
                      | true =>
                        go_wp2_with fail
                        clear c0 c1 c2 c3 c4 d0 d1
                        have f0 := cell_regrown C0.out
                        have f1 := cell_regrown C1.out
                        have f2 := cell_regrown C2.out
                        have f3 := cell_regrown C3.out
                        have f4 := cell_regrown C4.out
                        have g0 := cell_regrown D0.out
                        have g1 := cell_regrown D1.out
                        refine wp_region_quiet_below (by kernel_rfl) (by kernel_rfl) ?_
                        repeat (go_big_quiet_step (exact cQ _ _))
                        refine wpQuiet_nil ?_
                        intro w9 hw'
                        have HB9' : Hid (Below wr.heap.size wr w9) := by obtain ⟨⟨dq, osq⟩, hw''⟩ := hw'; show Below _ _ _; rw [hw'']; exact below_regrown wr dq osq
                        have REL := hidI (FIN.out (spB m.im x.name) w9 (by rw [k3]; simp) HB9'.out)
                        clear FIN hw' f0 f1 f2 f3 f4 g0 g1 cQ
                        go_wp2
                        go_roundg (gk - 1)
                        case rel => exact REL.out
                        case measure => omega
                  · have hlti : ¬ (j : Int) < (m.st.length : Int) := by omega
                    have hjl : m.st.take j = m.st := List.take_of_length_le (by omega)
                    rw [hjl]
                    obtain ⟨s2, hs2⟩ : ∃ s, s = (s1 || ssB m.im m.st) := ⟨_, rfl⟩
                    have HS2 := hidI hs2
                    rw [← hs2]
                    have HBZ := hidI (HB9.out.trans (HB.out.mono HB9.out.size))
                    have ROWZ := hidI (ROW9.out.later HB.out)
                    clear hs2 hjl HB HB9 ROW9 BX4 BX3
                    have VAL : Hid (earlyS m = if twB (epN m.ep) then 2 else if u then 3 else if s2 then 4 else if me then 5 else 0) := by
                      show _ = _
                      rw [earlyS, HLD.out, HTW.out, HU.out, HS2.out, HS1.out, HS0.out, HME.out]
                      rfl
                    clear HLD HTW HU HS2 HS1 HS0 HME
                    go_wp2_with fail
                    refine (l6Twice_spec r2.a r2.cap n2 (epN m.ep) _ HN2.out ROWZ.out (by omega) CAP2.out).mono ?_
                    rintro e W8 ⟨rfl, hb8⟩
                    have HB8 := hidI (HBZ.out.trans (hb8.mono HBZ.out.size))
                    clear hb8 HBZ ROWZ
                    generalize twB (epN m.ep) = t2 at VAL ⊢
                    cases t2 with
                    | true =>
                      go_wp2
                      go_ret
                      exact ⟨ret_int (by rw [VAL.out]; rfl), HB8.out⟩
                    | false =>
                      cases u with
                      | true =>
                        go_wp2
                        go_ret
                        exact ⟨ret_int (by rw [VAL.out]; rfl), HB8.out⟩
                      | false =>
                        cases s2 with
                        | true =>
                          go_wp2
                          go_ret
                          exact ⟨ret_int (by rw [VAL.out]; rfl), HB8.out⟩
                        | false =>
                          cases me with
                          | true =>
                            go_wp2
                            go_ret
                            exact ⟨ret_int (by rw [VAL.out]; rfl), HB8.out⟩
                          | false =>
                            go_wp2
                            go_ret
                            exact ⟨ret_int (by rw [VAL.out]; rfl), HB8.out⟩
end Go.Proofs.Ytdbpknmoacjodaa
