/-
  What the laws of chapter 16 over lists of names hold on their way. No program is spoken of but for the numbers of its types.
  What the laws' copiers answer: the walks.
  What the laws' toMod answers: the walk.
  What the laws' comparers of lists answer where both show the same: the walks.
  What slices.Equal answers of rows of the call's own, the model's != handed in: the walks.
  Two programs in memory side by side. No program is spoken of but for the numbers of its types.
  What the laws' eqMod answers of a program made twice: the walk.
  What is known of expressions, as plain functions. No program is spoken of.
  How often expressions are used, counted in a row of numbers. No program is spoken of.
  What impl.Dec and spec.Dec answer, at every number: the walks.
-/
import Derived.Deep.DeepCutAuto
import Derived.Deep.RegionWith
import Derived.Test.YtdbpknmoacjodaaCsUseMemToOutRow
namespace Go.Proofs.Ytdbpknmoacjodaa
open Go.RowKit Go.PlainAid Go.Sort

theorem rowAt_of {α : Type} {f : α → List Value} {m : Nat} (hf : ∀ x, (f x).length = m) {w : World} {b0 : Nat} {e : TypeId} {r : Rw} {l : List α} (h : OwnR w b0 e m r l.length (l.flatMap f)) : RowAt w r.a f m l := by
  cases hl : l with
  | nil => exact .inl rfl
  | cons y t =>
    rw [← hl]
    obtain ⟨g, hg, _⟩ := OwnR.elem hf h (j := 0) (x := y) (by rw [hl]; rfl)
    refine .inr ⟨g, 0, hg, (h.typed (by rw [Rw.blk, hg]; rfl)).2.1, fun j x hj i v hv => ?_⟩
    obtain ⟨g', hg', hc⟩ := OwnR.elem hf h hj
    rw [hg] at hg'
    cases hg'
    have hi := (List.getElem?_eq_some_iff.1 hv).1
    rw [hf] at hi
    have := hc i hi
    rw [Nat.zero_add, this]
    exact hv
theorem MdR.of {w : World} {b : Nat} {S : Sv} {m : Md} (h : OwnMd w b S m) : MdR w S m := ⟨rowAt_of (f := imL) (fun _ => rfl) h.im, rowAt_of (f := epL) (fun _ => rfl) h.ep, rowAt_of (f := smL) (fun _ => rfl) h.st, rowAt_of (f := exL) (fun _ => rfl) h.ex⟩
theorem cost_lens {m : Md} (h : costM m ≤ 1048576) : m.rq.length + m.im.length + m.ep.length + m.st.length + m.ex.length ≤ 1048576 := by
  have e : costM m = (m.rq.length + rowCost costStr m.rq) + (m.im.length + rowCost costIm m.im) + (m.ep.length + rowCost costEp m.ep) + (m.st.length + rowCost costSm m.st) + (m.ex.length + rowCost costEx m.ex) := rfl
  omega
theorem km_one {m : Md} (h : costM m ≤ 1048576) : KM m 1 := by
  have := cost_lens h
  exact ⟨by omega, by omega, by omega, by omega, by omega, by omega, by simp only [kM]; omega⟩
theorem OutS.keepM {w w' : World} {base n cap : Nat} {a : Option Addr} {xs : List ByteArray} (h : OutS w base a n cap xs) (hk : ∀ j, base ≤ j → j < w.heap.size → w'.heap[j]? = w.heap[j]?) : OutS w' base a n cap xs :=
  ⟨h.1, fun k => by obtain ⟨g, e, h1⟩ := h.2 k; exact ⟨g, e, ownS_keep h1 (hk g (ownS_blk h1).1 (ownS_blk h1).2)⟩⟩
structure U1 (w : World) (A : MA) (m : Md) (gx g n : Nat) (X : Nat → ByteArray) (W : World) : Prop where
  x : W.heap[gx]? = some (boxA A m)
  bel : Below w.heap.size w W
  sh : TextsAt W (some ⟨g, 0, none⟩) g n X
theorem U1.later {w W W' : World} {A : MA} {m : Md} {gx g n : Nat} {X : Nat → ByteArray} (h : U1 w A m gx g n X W) (hb : Below W.heap.size W W') : U1 w A m gx g n X W' := ⟨blk_later h.x hb, h.bel.trans (hb.mono h.bel.size), h.sh.later hb⟩
theorem texts_under {w w' : World} {a : Option Addr} {g n b : Nat} {X : Nat → ByteArray} (h : TextsAt w a g n X) (hb : Below b w w') (hg : g < b) : TextsAt w' a g n X :=
  ⟨h.addr, fun k => Nat.lt_of_lt_of_le (h.lt k) hb.size, fun j hj => by rw [hb.cell hg]; exact h.cell j hj⟩
theorem U1.under {w W W' : World} {A : MA} {m : Md} {gx g n b : Nat} {X : Nat → ByteArray} (h : U1 w A m gx g n X W) (hb : Below b W W') (hw : w.heap.size ≤ b) (hx : gx < b) (hg : g < b) : U1 w A m gx g n X W' := ⟨(hb.block _ hx).trans h.x, h.bel.trans (hb.mono hw), texts_under h.sh hb hg⟩
structure U2 (b : Nat) (S : Sv) (m : Md) (gy c : Nat) (a : Option Addr) (n cap : Nat) (xs : List ByteArray) (W : World) : Prop where
  y : W.heap[gy]? = some (boxD S m)
  own : OwnMd W b S m
  out : OutS W c a n cap xs
theorem U2.later {b : Nat} {S : Sv} {m : Md} {gy c n cap : Nat} {a : Option Addr} {xs : List ByteArray} {W W' : World} (h : U2 b S m gy c a n cap xs W) (hb : Below W.heap.size W W') : U2 b S m gy c a n cap xs W' := ⟨blk_later h.y hb, h.own.later hb, h.out.later hb⟩
def UseOutI (w : World) (l : List ByteArray) (e : Ending) (w' : World) : Prop := ∃ a n cap, e = .returned (.slice a n cap) ∧ OutS w' w.heap.size a n cap l ∧ Below w.heap.size w w'
theorem UseOut.i {w w' : World} {l : List ByteArray} {e : Ending} (h : UseOut w l e w') : UseOutI w l e w' := by
  obtain ⟨g, n, cap, h1, h2, h3⟩ := h
  exact ⟨_, n, cap, h1, OutS.own h2, h3⟩
theorem lens_of {m : Md} (h : costM m ≤ 1048576) : m.rq.length ≤ 1048576 ∧ m.im.length ≤ 1048576 ∧ m.ep.length ≤ 1048576 ∧ m.st.length ≤ 1048576 ∧ m.ex.length ≤ 1048576 := by
  have := cost_lens h
  omega
end Go.Proofs.Ytdbpknmoacjodaa
namespace Go.Proofs.Ytdbpknmoacjodaa
open Go.RowKit Go.PlainAid Go.Sort

theorem Try.infoTStr : (Try.prog.info? 9).map (fun i => (i.zero, i.size, i.bytes)) = some (some (.string { data := #[] }), 1, 16) := by kernel_rfl
set_option maxRecDepth 100000 in
set_option maxHeartbeats 3200000 in
theorem toStrS_any (a : Option Addr) (cap : Nat) (l : List ByteArray) (w : World) (hr : RowAt w a (fun x => [Value.string x]) 1 l) (hl : l.length ≤ 1048576) :
    Calls Try.prog 52 #[.slice a l.length cap] w fun e w' => ToOut w 9 1 l.length (l.flatMap (fun x => [Value.string x])) e w' := by
  have HR := hidI hr
  clear hr
  obtain ⟨i0, hi, hz0, hz1, hz2⟩ := info_parts Try.infoTStr
  go_enter Try.func52, Try.ntmps52
  go_wp2_with (first | (at_make; refine wpList_make_full w rfl _ _ 22 rfl w.heap.size 9 i0 _ 1 Try.underlying22 hi hz0 hz1 .i64 .i64 _ _ l.length (by rfl) (by rfl) rfl rfl (by rw [hz2]; omega) (by unfold maxLen; omega) (Nat.le_refl _) ?_))
  intro w1 hown1 hgr1
  have HB1 := hidI ((Below.refl _ _).grown hgr1 (Nat.le_refl _) (fun k h => by cases h) : Below w.heap.size w w1)
  have HO1 : Hid (OwnC w1 w.heap.size 9 1 w.heap.size l.length (l.flatMap (fun x => [Value.string x])) 0) := ⟨_, hown1, fun j hj => absurd hj (Nat.not_lt_zero j)⟩
  clear hown1 hgr1
  obtain ⟨g, hg⟩ : ∃ g, g = w.heap.size := ⟨_, rfl⟩
  have HGG := hidI hg
  rw [← hg]
  rw [← hg] at HO1
  have HOB : Hid (OwnC w1 w.heap.size 9 1 g l.length (l.flatMap (fun x => [Value.string x])) 0) := by rw [← hg]; exact HO1.out
  clear hg HO1
  go_wp2
  go_loopg [4] l.length (fun k i wr => ∃ j : Nat, i = .int .i64 j ∧ j + k = l.length ∧ OwnC wr w.heap.size 9 1 g l.length (l.flatMap (fun x => [Value.string x])) (j * 1) ∧ Below w.heap.size w wr)
  case atStart => exact ⟨0, rfl, by omega, HOB.out, HB1.out⟩
  case round =>
    obtain ⟨j, rfl, hj, ho, hb⟩ := hrel
    have HO := hidI ho
    have HB := hidI hb
    clear ho hb
    by_cases hlt : j < l.length
    · have hlti : (j : Int) < (l.length : Int) := by omega
      obtain ⟨x, hx⟩ : ∃ x, l[j]? = some x := ⟨_, List.getElem?_eq_getElem hlt⟩
      obtain ⟨b, off, rfl, hc⟩ := (HR.out.later HB.out).get hx
      have HX := hidI hx
      clear hx
      have c0 := hc 0 _ rfl
      simp only [Nat.add_zero, Nat.mul_one] at c0
      clear hc
      obtain ⟨j1, hj1⟩ : ∃ j1, j1 = j + 1 := ⟨_, rfl⟩
      have ej : (j : Int) + 1 = (j1 : Int) := by omega
      have HJ := hidI hj1
      clear hj1
      obtain ⟨v0, g0⟩ := HO.out.has (j * 1) (by omega)
      have f0 := HO.out.free (j * 1)
      have HN := hidI (HO.out.put (by omega) (flat_at (f := (fun x => [Value.string x])) (m := 1) (fun _ => rfl) l j x 0 _ HX.out rfl))
      simp only [Nat.mul_one] at g0 f0
      have hge : w.heap.size ≤ g := by have := HGG.out; omega
      go_wp2
      go_roundg (gk - 1)
      case rel => exact ⟨j1, rfl, by have := HJ.out; omega, by have := HN.out; simp only [Nat.mul_one] at this; rw [HJ.out, Nat.mul_one]; exact this, (HB.out.setCell hge _)⟩
      case measure => omega
    · have hlti : ¬ (j : Int) < (l.length : Int) := by omega
      obtain rfl : j = l.length := by omega
      go_wp2
      go_ret
      exact ⟨g, rfl, HO.out.all (flat_lenC (f := (fun x => [Value.string x])) (fun _ => rfl) l), HB.out⟩
theorem Try.infoTIm : (Try.prog.info? 154).map (fun i => (i.zero, i.size, i.bytes)) = some (some (.agg #[.string { data := #[] }, .string { data := #[] }, .string { data := #[] }]), 3, 48) := by kernel_rfl
set_option maxHeartbeats 800000 in
theorem toIm_any (x : Im) (w : World) :
    Calls Try.prog 121 #[.agg #[.string x.spec, .string x.first, .string x.loc]] w fun e w' => e = .returned (.agg #[.string x.spec, .string x.first, .string x.loc]) ∧ Below w.heap.size w w' := by
  go_enter Try.func121, Try.ntmps121
  go_wp2
  refine bodyPost_ret (results_cell_row rfl _ _ (w.heap.size + 1) 154 #[.string x.spec, .string x.first, .string x.loc] (0, 0) _ rfl ?_ Try.underlying154 rfl (by kernel_rfl)) rfl ?_
  · rw [heap_alloc_old _ _ (by show _ < ((w.heap.push _).push _).size; simp)]
    exact heap_alloc2_new w _ _
  · exact ⟨rfl, (((Below.refl _ _).alloc (Nat.le_refl _) _).alloc (by show _ ≤ (w.heap.push _).size; simp) _).alloc (by show _ ≤ ((w.heap.push _).push _).size; simp; omega) _⟩
set_option maxRecDepth 100000 in
set_option maxHeartbeats 3200000 in
theorem toImS_any (a : Option Addr) (cap : Nat) (l : List Im) (w : World) (hr : RowAt w a imL 3 l) (hl : l.length ≤ 1048576) :
    Calls Try.prog 53 #[.slice a l.length cap] w fun e w' => ToOut w 154 3 l.length (l.flatMap imL) e w' := by
  have HR := hidI hr
  clear hr
  obtain ⟨i0, hi, hz0, hz1, hz2⟩ := info_parts Try.infoTIm
  go_enter Try.func53, Try.ntmps53
  go_wp2_with (first | (at_make; refine wpList_make_full w rfl _ _ 32 rfl w.heap.size 154 i0 _ 3 Try.underlying32 hi hz0 hz1 .i64 .i64 _ _ l.length (by rfl) (by rfl) rfl rfl (by rw [hz2]; omega) (by unfold maxLen; omega) (Nat.le_refl _) ?_))
  intro w1 hown1 hgr1
  have HB1 := hidI ((Below.refl _ _).grown hgr1 (Nat.le_refl _) (fun k h => by cases h) : Below w.heap.size w w1)
  have HO1 : Hid (OwnC w1 w.heap.size 154 3 w.heap.size l.length (l.flatMap imL) 0) := ⟨_, hown1, fun j hj => absurd hj (Nat.not_lt_zero j)⟩
  clear hown1 hgr1
  obtain ⟨g, hg⟩ : ∃ g, g = w.heap.size := ⟨_, rfl⟩
  have HGG := hidI hg
  rw [← hg]
  rw [← hg] at HO1
  have HOB : Hid (OwnC w1 w.heap.size 154 3 g l.length (l.flatMap imL) 0) := by rw [← hg]; exact HO1.out
  clear hg HO1
  go_wp2
  go_loopg [4] l.length (fun k i wr => ∃ j : Nat, i = .int .i64 j ∧ j + k = l.length ∧ OwnC wr w.heap.size 154 3 g l.length (l.flatMap imL) (j * 3) ∧ Below w.heap.size w wr)
  case atStart => exact ⟨0, rfl, by omega, HOB.out, HB1.out⟩
  case round =>
    obtain ⟨j, rfl, hj, ho, hb⟩ := hrel
    have HO := hidI ho
    have HB := hidI hb
    clear ho hb
    by_cases hlt : j < l.length
    · have hlti : (j : Int) < (l.length : Int) := by omega
      obtain ⟨x, hx⟩ : ∃ x, l[j]? = some x := ⟨_, List.getElem?_eq_getElem hlt⟩
      obtain ⟨b, off, rfl, hc⟩ := (HR.out.later HB.out).get hx
      have HX := hidI hx
      clear hx
      have c0 := hc 0 _ rfl
      have c1 := hc 1 _ rfl
      have c2 := hc 2 _ rfl
      simp only [Nat.add_zero] at c0
      clear hc
      obtain ⟨j1, hj1⟩ : ∃ j1, j1 = j + 1 := ⟨_, rfl⟩
      have ej : (j : Int) + 1 = (j1 : Int) := by omega
      have HJ := hidI hj1
      clear hj1
      go_wp2_with fail
      refine (toIm_any x _).mono ?_
      rintro e w2 ⟨rfl, hb2⟩
      have HO2 := hidI (HO.out.later hb2)
      have HB2 := hidI (HB.out.trans (hb2.mono HB.out.size))
      clear hb2 c0 c1 c2
      obtain ⟨v0, g0⟩ := HO2.out.has (j * 3) (by omega)
      have f0 := HO2.out.free (j * 3)
      obtain ⟨v1, g1⟩ := HO2.out.has (j * 3 + 1) (by omega)
      have f1 := HO2.out.free (j * 3 + 1)
      obtain ⟨v2, g2⟩ := HO2.out.has (j * 3 + 2) (by omega)
      have f2 := HO2.out.free (j * 3 + 2)
      have HN := hidI (((HO2.out.put (by omega) (flat_at (f := imL) (m := 3) (fun _ => rfl) l j x 0 _ HX.out rfl)).put (by omega) (flat_at (f := imL) (m := 3) (fun _ => rfl) l j x 1 _ HX.out rfl)).put (by omega) (flat_at (f := imL) (m := 3) (fun _ => rfl) l j x 2 _ HX.out rfl))
      have hge : w.heap.size ≤ g := by have := HGG.out; omega
      go_wp2
      go_roundg (gk - 1)
      case rel => exact ⟨j1, rfl, by have := HJ.out; omega, by rw [HJ.out, Nat.succ_mul]; exact HN.out, (((HB2.out.setCell hge _).setCell hge _).setCell hge _)⟩
      case measure => omega
    · have hlti : ¬ (j : Int) < (l.length : Int) := by omega
      obtain rfl : j = l.length := by omega
      go_wp2
      go_ret
      exact ⟨g, rfl, HO.out.all (flat_lenC (f := imL) (fun _ => rfl) l), HB.out⟩
theorem Try.infoTEp : (Try.prog.info? 79).map (fun i => (i.zero, i.size, i.bytes)) = some (some (.agg #[.int .i64 0, .string { data := #[] }, .string { data := #[] }, .string { data := #[] }]), 4, 56) := by kernel_rfl
set_option maxHeartbeats 800000 in
theorem toEp_any (x : Ep) (w : World) :
    Calls Try.prog 122 #[.agg #[.int .i64 x.kind, .string x.name, .string x.loc, .string x.spec]] w fun e w' => e = .returned (.agg #[.int .i64 x.kind, .string x.name, .string x.loc, .string x.spec]) ∧ Below w.heap.size w w' := by
  go_enter Try.func122, Try.ntmps122
  go_wp2
  refine bodyPost_ret (results_cell_row rfl _ _ (w.heap.size + 1) 79 #[.int .i64 x.kind, .string x.name, .string x.loc, .string x.spec] (0, 0) _ rfl ?_ Try.underlying79 rfl (by kernel_rfl)) rfl ?_
  · rw [heap_alloc_old _ _ (by show _ < ((w.heap.push _).push _).size; simp)]
    exact heap_alloc2_new w _ _
  · exact ⟨rfl, (((Below.refl _ _).alloc (Nat.le_refl _) _).alloc (by show _ ≤ (w.heap.push _).size; simp) _).alloc (by show _ ≤ ((w.heap.push _).push _).size; simp; omega) _⟩
set_option maxRecDepth 100000 in
set_option maxHeartbeats 3200000 in
theorem toEpS_any (a : Option Addr) (cap : Nat) (l : List Ep) (w : World) (hr : RowAt w a epL 4 l) (hl : l.length ≤ 1048576) :
    Calls Try.prog 54 #[.slice a l.length cap] w fun e w' => ToOut w 79 4 l.length (l.flatMap epL) e w' := by
  have HR := hidI hr
  clear hr
  obtain ⟨i0, hi, hz0, hz1, hz2⟩ := info_parts Try.infoTEp
  go_enter Try.func54, Try.ntmps54
  go_wp2_with (first | (at_make; refine wpList_make_full w rfl _ _ 33 rfl w.heap.size 79 i0 _ 4 Try.underlying33 hi hz0 hz1 .i64 .i64 _ _ l.length (by rfl) (by rfl) rfl rfl (by rw [hz2]; omega) (by unfold maxLen; omega) (Nat.le_refl _) ?_))
  intro w1 hown1 hgr1
  have HB1 := hidI ((Below.refl _ _).grown hgr1 (Nat.le_refl _) (fun k h => by cases h) : Below w.heap.size w w1)
  have HO1 : Hid (OwnC w1 w.heap.size 79 4 w.heap.size l.length (l.flatMap epL) 0) := ⟨_, hown1, fun j hj => absurd hj (Nat.not_lt_zero j)⟩
  clear hown1 hgr1
  obtain ⟨g, hg⟩ : ∃ g, g = w.heap.size := ⟨_, rfl⟩
  have HGG := hidI hg
  rw [← hg]
  rw [← hg] at HO1
  have HOB : Hid (OwnC w1 w.heap.size 79 4 g l.length (l.flatMap epL) 0) := by rw [← hg]; exact HO1.out
  clear hg HO1
  go_wp2
  go_loopg [4] l.length (fun k i wr => ∃ j : Nat, i = .int .i64 j ∧ j + k = l.length ∧ OwnC wr w.heap.size 79 4 g l.length (l.flatMap epL) (j * 4) ∧ Below w.heap.size w wr)
  case atStart => exact ⟨0, rfl, by omega, HOB.out, HB1.out⟩
  case round =>
    obtain ⟨j, rfl, hj, ho, hb⟩ := hrel
    have HO := hidI ho
    have HB := hidI hb
    clear ho hb
    by_cases hlt : j < l.length
    · have hlti : (j : Int) < (l.length : Int) := by omega
      obtain ⟨x, hx⟩ : ∃ x, l[j]? = some x := ⟨_, List.getElem?_eq_getElem hlt⟩
      obtain ⟨b, off, rfl, hc⟩ := (HR.out.later HB.out).get hx
      have HX := hidI hx
      clear hx
      have c0 := hc 0 _ rfl
      have c1 := hc 1 _ rfl
      have c2 := hc 2 _ rfl
      have c3 := hc 3 _ rfl
      simp only [Nat.add_zero] at c0
      clear hc
      obtain ⟨j1, hj1⟩ : ∃ j1, j1 = j + 1 := ⟨_, rfl⟩
      have ej : (j : Int) + 1 = (j1 : Int) := by omega
      have HJ := hidI hj1
      clear hj1
      go_wp2_with fail
      refine (toEp_any x _).mono ?_
      rintro e w2 ⟨rfl, hb2⟩
      have HO2 := hidI (HO.out.later hb2)
      have HB2 := hidI (HB.out.trans (hb2.mono HB.out.size))
      clear hb2 c0 c1 c2 c3
      obtain ⟨v0, g0⟩ := HO2.out.has (j * 4) (by omega)
      have f0 := HO2.out.free (j * 4)
      obtain ⟨v1, g1⟩ := HO2.out.has (j * 4 + 1) (by omega)
      have f1 := HO2.out.free (j * 4 + 1)
      obtain ⟨v2, g2⟩ := HO2.out.has (j * 4 + 2) (by omega)
      have f2 := HO2.out.free (j * 4 + 2)
      obtain ⟨v3, g3⟩ := HO2.out.has (j * 4 + 3) (by omega)
      have f3 := HO2.out.free (j * 4 + 3)
      have HN := hidI ((((HO2.out.put (by omega) (flat_at (f := epL) (m := 4) (fun _ => rfl) l j x 0 _ HX.out rfl)).put (by omega) (flat_at (f := epL) (m := 4) (fun _ => rfl) l j x 1 _ HX.out rfl)).put (by omega) (flat_at (f := epL) (m := 4) (fun _ => rfl) l j x 2 _ HX.out rfl)).put (by omega) (flat_at (f := epL) (m := 4) (fun _ => rfl) l j x 3 _ HX.out rfl))
      have hge : w.heap.size ≤ g := by have := HGG.out; omega
      go_wp2
      go_roundg (gk - 1)
      case rel => exact ⟨j1, rfl, by have := HJ.out; omega, by rw [HJ.out, Nat.succ_mul]; exact HN.out, ((((HB2.out.setCell hge _).setCell hge _).setCell hge _).setCell hge _)⟩
      case measure => omega
    · have hlti : ¬ (j : Int) < (l.length : Int) := by omega
      obtain rfl : j = l.length := by omega
      go_wp2
      go_ret
      exact ⟨g, rfl, HO.out.all (flat_lenC (f := epL) (fun _ => rfl) l), HB.out⟩
theorem Try.infoTSm : (Try.prog.info? 159).map (fun i => (i.zero, i.size, i.bytes)) = some (some (.agg #[.int .i64 0, .string { data := #[] }, .int .i64 0]), 3, 32) := by kernel_rfl
set_option maxHeartbeats 800000 in
theorem toSm_any (x : Sm) (w : World) :
    Calls Try.prog 123 #[.agg #[.int .i64 x.kind, .string x.name, .int .i64 x.expr]] w fun e w' => e = .returned (.agg #[.int .i64 x.kind, .string x.name, .int .i64 x.expr]) ∧ Below w.heap.size w w' := by
  go_enter Try.func123, Try.ntmps123
  go_wp2
  refine bodyPost_ret (results_cell_row rfl _ _ (w.heap.size + 1) 159 #[.int .i64 x.kind, .string x.name, .int .i64 x.expr] (0, 0) _ rfl ?_ Try.underlying159 rfl (by kernel_rfl)) rfl ?_
  · rw [heap_alloc_old _ _ (by show _ < ((w.heap.push _).push _).size; simp)]
    exact heap_alloc2_new w _ _
  · exact ⟨rfl, (((Below.refl _ _).alloc (Nat.le_refl _) _).alloc (by show _ ≤ (w.heap.push _).size; simp) _).alloc (by show _ ≤ ((w.heap.push _).push _).size; simp; omega) _⟩
set_option maxRecDepth 100000 in
set_option maxHeartbeats 3200000 in
theorem toSmS_any (a : Option Addr) (cap : Nat) (l : List Sm) (w : World) (hr : RowAt w a smL 3 l) (hl : l.length ≤ 1048576) :
    Calls Try.prog 55 #[.slice a l.length cap] w fun e w' => ToOut w 159 3 l.length (l.flatMap smL) e w' := by
  have HR := hidI hr
  clear hr
  obtain ⟨i0, hi, hz0, hz1, hz2⟩ := info_parts Try.infoTSm
  go_enter Try.func55, Try.ntmps55
  go_wp2_with (first | (at_make; refine wpList_make_full w rfl _ _ 34 rfl w.heap.size 159 i0 _ 3 Try.underlying34 hi hz0 hz1 .i64 .i64 _ _ l.length (by rfl) (by rfl) rfl rfl (by rw [hz2]; omega) (by unfold maxLen; omega) (Nat.le_refl _) ?_))
  intro w1 hown1 hgr1
  have HB1 := hidI ((Below.refl _ _).grown hgr1 (Nat.le_refl _) (fun k h => by cases h) : Below w.heap.size w w1)
  have HO1 : Hid (OwnC w1 w.heap.size 159 3 w.heap.size l.length (l.flatMap smL) 0) := ⟨_, hown1, fun j hj => absurd hj (Nat.not_lt_zero j)⟩
  clear hown1 hgr1
  obtain ⟨g, hg⟩ : ∃ g, g = w.heap.size := ⟨_, rfl⟩
  have HGG := hidI hg
  rw [← hg]
  rw [← hg] at HO1
  have HOB : Hid (OwnC w1 w.heap.size 159 3 g l.length (l.flatMap smL) 0) := by rw [← hg]; exact HO1.out
  clear hg HO1
  go_wp2
  go_loopg [4] l.length (fun k i wr => ∃ j : Nat, i = .int .i64 j ∧ j + k = l.length ∧ OwnC wr w.heap.size 159 3 g l.length (l.flatMap smL) (j * 3) ∧ Below w.heap.size w wr)
  case atStart => exact ⟨0, rfl, by omega, HOB.out, HB1.out⟩
  case round =>
    obtain ⟨j, rfl, hj, ho, hb⟩ := hrel
    have HO := hidI ho
    have HB := hidI hb
    clear ho hb
    by_cases hlt : j < l.length
    · have hlti : (j : Int) < (l.length : Int) := by omega
      obtain ⟨x, hx⟩ : ∃ x, l[j]? = some x := ⟨_, List.getElem?_eq_getElem hlt⟩
      obtain ⟨b, off, rfl, hc⟩ := (HR.out.later HB.out).get hx
      have HX := hidI hx
      clear hx
      have c0 := hc 0 _ rfl
      have c1 := hc 1 _ rfl
      have c2 := hc 2 _ rfl
      simp only [Nat.add_zero] at c0
      clear hc
      obtain ⟨j1, hj1⟩ : ∃ j1, j1 = j + 1 := ⟨_, rfl⟩
      have ej : (j : Int) + 1 = (j1 : Int) := by omega
      have HJ := hidI hj1
      clear hj1
      go_wp2_with fail
      refine (toSm_any x _).mono ?_
      rintro e w2 ⟨rfl, hb2⟩
      have HO2 := hidI (HO.out.later hb2)
      have HB2 := hidI (HB.out.trans (hb2.mono HB.out.size))
      clear hb2 c0 c1 c2
      obtain ⟨v0, g0⟩ := HO2.out.has (j * 3) (by omega)
      have f0 := HO2.out.free (j * 3)
      obtain ⟨v1, g1⟩ := HO2.out.has (j * 3 + 1) (by omega)
      have f1 := HO2.out.free (j * 3 + 1)
      obtain ⟨v2, g2⟩ := HO2.out.has (j * 3 + 2) (by omega)
      have f2 := HO2.out.free (j * 3 + 2)
      have HN := hidI (((HO2.out.put (by omega) (flat_at (f := smL) (m := 3) (fun _ => rfl) l j x 0 _ HX.out rfl)).put (by omega) (flat_at (f := smL) (m := 3) (fun _ => rfl) l j x 1 _ HX.out rfl)).put (by omega) (flat_at (f := smL) (m := 3) (fun _ => rfl) l j x 2 _ HX.out rfl))
      have hge : w.heap.size ≤ g := by have := HGG.out; omega
      go_wp2
      go_roundg (gk - 1)
      case rel => exact ⟨j1, rfl, by have := HJ.out; omega, by rw [HJ.out, Nat.succ_mul]; exact HN.out, (((HB2.out.setCell hge _).setCell hge _).setCell hge _)⟩
      case measure => omega
    · have hlti : ¬ (j : Int) < (l.length : Int) := by omega
      obtain rfl : j = l.length := by omega
      go_wp2
      go_ret
      exact ⟨g, rfl, HO.out.all (flat_lenC (f := smL) (fun _ => rfl) l), HB.out⟩
theorem Try.infoTEx : (Try.prog.info? 96).map (fun i => (i.zero, i.size, i.bytes)) = some (some (.agg #[.int .i64 0, .int .i64 0, .string { data := #[] }, .string { data := #[] }, .int .i64 0, .int .i64 0]), 6, 64) := by kernel_rfl
set_option maxHeartbeats 800000 in
theorem toEx_any (x : Ex) (w : World) :
    Calls Try.prog 124 #[.agg #[.int .i64 x.kind, .int .i64 x.num, .string x.name, .string x.field, .int .i64 x.l, .int .i64 x.r]] w fun e w' => e = .returned (.agg #[.int .i64 x.kind, .int .i64 x.num, .string x.name, .string x.field, .int .i64 x.l, .int .i64 x.r]) ∧ Below w.heap.size w w' := by
  go_enter Try.func124, Try.ntmps124
  go_wp2
  refine bodyPost_ret (results_cell_row rfl _ _ (w.heap.size + 1) 96 #[.int .i64 x.kind, .int .i64 x.num, .string x.name, .string x.field, .int .i64 x.l, .int .i64 x.r] (0, 0) _ rfl ?_ Try.underlying96 rfl (by kernel_rfl)) rfl ?_
  · rw [heap_alloc_old _ _ (by show _ < ((w.heap.push _).push _).size; simp)]
    exact heap_alloc2_new w _ _
  · exact ⟨rfl, (((Below.refl _ _).alloc (Nat.le_refl _) _).alloc (by show _ ≤ (w.heap.push _).size; simp) _).alloc (by show _ ≤ ((w.heap.push _).push _).size; simp; omega) _⟩
set_option maxRecDepth 100000 in
set_option maxHeartbeats 3200000 in
theorem toExS_any (a : Option Addr) (cap : Nat) (l : List Ex) (w : World) (hr : RowAt w a exL 6 l) (hl : l.length ≤ 1048576) :
    Calls Try.prog 56 #[.slice a l.length cap] w fun e w' => ToOut w 96 6 l.length (l.flatMap exL) e w' := by
  have HR := hidI hr
  clear hr
  obtain ⟨i0, hi, hz0, hz1, hz2⟩ := info_parts Try.infoTEx
  go_enter Try.func56, Try.ntmps56
  go_wp2_with (first | (at_make; refine wpList_make_full w rfl _ _ 35 rfl w.heap.size 96 i0 _ 6 Try.underlying35 hi hz0 hz1 .i64 .i64 _ _ l.length (by rfl) (by rfl) rfl rfl (by rw [hz2]; omega) (by unfold maxLen; omega) (Nat.le_refl _) ?_))
  intro w1 hown1 hgr1
  have HB1 := hidI ((Below.refl _ _).grown hgr1 (Nat.le_refl _) (fun k h => by cases h) : Below w.heap.size w w1)
  have HO1 : Hid (OwnC w1 w.heap.size 96 6 w.heap.size l.length (l.flatMap exL) 0) := ⟨_, hown1, fun j hj => absurd hj (Nat.not_lt_zero j)⟩
  clear hown1 hgr1
  obtain ⟨g, hg⟩ : ∃ g, g = w.heap.size := ⟨_, rfl⟩
  have HGG := hidI hg
  rw [← hg]
  rw [← hg] at HO1
  have HOB : Hid (OwnC w1 w.heap.size 96 6 g l.length (l.flatMap exL) 0) := by rw [← hg]; exact HO1.out
  clear hg HO1
  go_wp2
  go_loopg [4] l.length (fun k i wr => ∃ j : Nat, i = .int .i64 j ∧ j + k = l.length ∧ OwnC wr w.heap.size 96 6 g l.length (l.flatMap exL) (j * 6) ∧ Below w.heap.size w wr)
  case atStart => exact ⟨0, rfl, by omega, HOB.out, HB1.out⟩
  case round =>
    obtain ⟨j, rfl, hj, ho, hb⟩ := hrel
    have HO := hidI ho
    have HB := hidI hb
    clear ho hb
    by_cases hlt : j < l.length
    · have hlti : (j : Int) < (l.length : Int) := by omega
      obtain ⟨x, hx⟩ : ∃ x, l[j]? = some x := ⟨_, List.getElem?_eq_getElem hlt⟩
      obtain ⟨b, off, rfl, hc⟩ := (HR.out.later HB.out).get hx
      have HX := hidI hx
      clear hx
      have c0 := hc 0 _ rfl
      have c1 := hc 1 _ rfl
      have c2 := hc 2 _ rfl
      have c3 := hc 3 _ rfl
      have c4 := hc 4 _ rfl
      have c5 := hc 5 _ rfl
      simp only [Nat.add_zero] at c0
      clear hc
      obtain ⟨j1, hj1⟩ : ∃ j1, j1 = j + 1 := ⟨_, rfl⟩
      have ej : (j : Int) + 1 = (j1 : Int) := by omega
      have HJ := hidI hj1
      clear hj1
      go_wp2_with fail
      refine (toEx_any x _).mono ?_
      rintro e w2 ⟨rfl, hb2⟩
      have HO2 := hidI (HO.out.later hb2)
      have HB2 := hidI (HB.out.trans (hb2.mono HB.out.size))
      clear hb2 c0 c1 c2 c3 c4 c5
      obtain ⟨v0, g0⟩ := HO2.out.has (j * 6) (by omega)
      have f0 := HO2.out.free (j * 6)
      obtain ⟨v1, g1⟩ := HO2.out.has (j * 6 + 1) (by omega)
      have f1 := HO2.out.free (j * 6 + 1)
      obtain ⟨v2, g2⟩ := HO2.out.has (j * 6 + 2) (by omega)
      have f2 := HO2.out.free (j * 6 + 2)
      obtain ⟨v3, g3⟩ := HO2.out.has (j * 6 + 3) (by omega)
      have f3 := HO2.out.free (j * 6 + 3)
      obtain ⟨v4, g4⟩ := HO2.out.has (j * 6 + 4) (by omega)
      have f4 := HO2.out.free (j * 6 + 4)
      obtain ⟨v5, g5⟩ := HO2.out.has (j * 6 + 5) (by omega)
      have f5 := HO2.out.free (j * 6 + 5)
      have HN := hidI ((((((HO2.out.put (by omega) (flat_at (f := exL) (m := 6) (fun _ => rfl) l j x 0 _ HX.out rfl)).put (by omega) (flat_at (f := exL) (m := 6) (fun _ => rfl) l j x 1 _ HX.out rfl)).put (by omega) (flat_at (f := exL) (m := 6) (fun _ => rfl) l j x 2 _ HX.out rfl)).put (by omega) (flat_at (f := exL) (m := 6) (fun _ => rfl) l j x 3 _ HX.out rfl)).put (by omega) (flat_at (f := exL) (m := 6) (fun _ => rfl) l j x 4 _ HX.out rfl)).put (by omega) (flat_at (f := exL) (m := 6) (fun _ => rfl) l j x 5 _ HX.out rfl))
      have hge : w.heap.size ≤ g := by have := HGG.out; omega
      go_wp2
      go_roundg (gk - 1)
      case rel => exact ⟨j1, rfl, by have := HJ.out; omega, by rw [HJ.out, Nat.succ_mul]; exact HN.out, ((((((HB2.out.setCell hge _).setCell hge _).setCell hge _).setCell hge _).setCell hge _).setCell hge _)⟩
      case measure => omega
    · have hlti : ¬ (j : Int) < (l.length : Int) := by omega
      obtain rfl : j = l.length := by omega
      go_wp2
      go_ret
      exact ⟨g, rfl, HO.out.all (flat_lenC (f := exL) (fun _ => rfl) l), HB.out⟩
end Go.Proofs.Ytdbpknmoacjodaa
namespace Go.Proofs.Ytdbpknmoacjodaa
open Go.RowKit Go.PlainAid Go.Sort

theorem map_flatT (l : List ByteArray) : l.map Value.string = l.flatMap (fun x => [Value.string x]) := by
  induction l with
  | nil => rfl
  | cons x l ih => rw [List.map_cons, List.flatMap_cons, ih]; rfl
def ToModOut (w : World) (m : Md) (e : Ending) (w' : World) : Prop := ∃ S, e = .returned (modD S m) ∧ OwnMd w' w.heap.size S m ∧ Below w.heap.size w w'
theorem own_aside {w : World} {base size n c i : Nat} {e : TypeId} {r : Rw} {xs : List Value} {u : Value} {cs : Array Value} (h : OwnR w base e size r n xs) (hc : w.heap[c]? = some (.cells cs 37 (0, 0))) (he : e ≠ 37) : OwnR (w.setCell ⟨c, i, none⟩ u) base e size r n xs :=
  h.keep fun k g => heap_setCell_other w ⟨c, i, none⟩ k u fun eq => by
    obtain ⟨_, _, cur, hk⟩ := h.typed g
    simp only at eq
    rw [eq, hc] at hk
    simp only [Option.some.injEq, Obj.cells.injEq] at hk
    exact he hk.2.1.symm
abbrev set5 (w : World) (b : Nat) (x0 x1 x2 x3 x4 : Value) : World := ((((w.setCell ⟨b, 0, none⟩ x0).setCell ⟨b, 1, none⟩ x1).setCell ⟨b, 2, none⟩ x2).setCell ⟨b, 3, none⟩ x3).setCell ⟨b, 4, none⟩ x4
theorem own_aside5 {w : World} {base size n c : Nat} {e : TypeId} {r : Rw} {xs : List Value} {v0 v1 v2 v3 v4 x0 x1 x2 x3 x4 : Value} (h : OwnR w base e size r n xs) (hc : w.heap[c]? = some (.cells #[v0, v1, v2, v3, v4] 37 (0, 0))) (he : e ≠ 37) : OwnR (set5 w c x0 x1 x2 x3 x4) base e size r n xs := by
  have h0 := qcell (i := 0) (u := x0) hc
  have h1 := qcell (i := 1) (u := x1) h0
  have h2 := qcell (i := 2) (u := x2) h1
  have h3 := qcell (i := 3) (u := x3) h2
  exact own_aside (own_aside (own_aside (own_aside (own_aside h hc he) h0 he) h1 he) h2 he) h3 he
set_option maxRecDepth 100000 in
set_option maxHeartbeats 6400000 in
theorem toMod_any (A : MA) (m : Md) (w : World) (hr : ModIn w A m) (f1 : m.rq.length ≤ 1048576) (f2 : m.im.length ≤ 1048576) (f3 : m.ep.length ≤ 1048576) (f4 : m.st.length ≤ 1048576) (f5 : m.ex.length ≤ 1048576) :
    Calls Try.prog 11 #[modA A m] w fun e w' => ToModOut w m e w' := by
  have HR := hidI hr
  clear hr
  unfold modA
  go_enter Try.func11, Try.ntmps11
  go_upto_region 2 with fail
  obtain ⟨gx, hgx⟩ : ∃ gx, gx = w.heap.size := ⟨_, rfl⟩
  rw [← hgx]
  refine world_anyI (R := (fun W => W.heap[gx]? = some (.cells #[.slice A.a0 m.rq.length A.c0, .slice A.a1 m.im.length A.c1, .slice A.a2 m.ep.length A.c2, .slice A.a3 m.st.length A.c3, .slice A.a4 m.ex.length A.c4] 28 (0, 0)) ∧ W.heap[gx + 1]? = some (.cells #[.slice none 0 0, .slice none 0 0, .slice none 0 0, .slice none 0 0, .slice none 0 0] 37 (0, 0)) ∧ W.heap[gx + 2]? = some (.cells #[.slice none 0 0, .slice none 0 0, .slice none 0 0, .slice none 0 0, .slice none 0 0] 37 (0, 0)) ∧ Below w.heap.size w W)) ?_ ?_
  · rw [hgx]
    refine ⟨?_, ?_, ?_, ?_⟩
    · rw [heap_alloc_old _ _ (by show _ < ((w.heap.push _).push _).size; simp; omega), heap_alloc_old _ _ (by show _ < (w.heap.push _).size; simp)]
      exact heap_alloc_new w _
    · rw [heap_alloc_old _ _ (by show _ < ((w.heap.push _).push _).size; simp)]
      exact heap_alloc2_new w _ _
    · have := heap_alloc_new ((w.alloc (.cells #[.slice A.a0 m.rq.length A.c0, .slice A.a1 m.im.length A.c1, .slice A.a2 m.ep.length A.c2, .slice A.a3 m.st.length A.c3, .slice A.a4 m.ex.length A.c4] 28)).alloc (.cells #[.slice none 0 0, .slice none 0 0, .slice none 0 0, .slice none 0 0, .slice none 0 0] 37)) (.cells #[.slice none 0 0, .slice none 0 0, .slice none 0 0, .slice none 0 0, .slice none 0 0] 37)
      simp only [alloc_size] at this
      exact this
    · exact (((Below.refl _ _).alloc (Nat.le_refl _) _).alloc (by show _ ≤ (w.heap.push _).size; simp) _).alloc (by show _ ≤ ((w.heap.push _).push _).size; simp; omega) _
  have hge : w.heap.size ≤ gx + 2 := by omega
  have hge1 : w.heap.size ≤ gx + 1 := by omega
  clear hgx
  rintro W0 ⟨hx, hy, hz, hb⟩
  have X := hidI hx
  have Y := hidI hy
  have Z := hidI hz
  have HB := hidI hb
  clear hx hy hz hb
  obtain ⟨c0, c1, c2, c3, c4, cf⟩ := five_of X.out
  go_wp2_with fail
  refine (toStrS_any A.a0 A.c0 m.rq W0 (HR.out.later HB.out).1 f1).mono ?_
  rintro e V0 ⟨g0, rfl, hown, hb⟩
  have X2 := hidI ((hb.block _ (Array.getElem?_eq_some_iff.1 X.out).1).trans X.out)
  have Y2 := hidI ((hb.block _ (Array.getElem?_eq_some_iff.1 Y.out).1).trans Y.out)
  have Z2 := hidI ((hb.block _ (Array.getElem?_eq_some_iff.1 Z.out).1).trans Z.out)
  have HB2 := hidI (HB.out.trans (hb.mono HB.out.size))
  have P0 := hidI (hown.low HB.out.size)
  clear hown hb c0 c1 c2 c3 c4 cf X Y Z HB
  obtain ⟨c0, c1, c2, c3, c4, cf⟩ := five_of Z2.out
  go_upto_region 3 with fail
  refine world_anyI (R := (fun W => W.heap[gx]? = some (.cells #[.slice A.a0 m.rq.length A.c0, .slice A.a1 m.im.length A.c1, .slice A.a2 m.ep.length A.c2, .slice A.a3 m.st.length A.c3, .slice A.a4 m.ex.length A.c4] 28 (0, 0)) ∧ W.heap[gx + 1]? = some (.cells #[.slice none 0 0, .slice none 0 0, .slice none 0 0, .slice none 0 0, .slice none 0 0] 37 (0, 0)) ∧ W.heap[gx + 2]? = some (.cells #[.slice (some ⟨g0, 0, none⟩) m.rq.length m.rq.length, .slice none 0 0, .slice none 0 0, .slice none 0 0, .slice none 0 0] 37 (0, 0)) ∧ Below w.heap.size w W ∧ OwnR W w.heap.size 9 1 ⟨some ⟨g0, 0, none⟩, m.rq.length⟩ m.rq.length (m.rq.flatMap (fun x => [Value.string x])))) ⟨(heap_setCell_other _ _ _ _ (by show gx ≠ gx + 2; omega)).trans X2.out, (heap_setCell_other _ _ _ _ (by show gx + 1 ≠ gx + 2; omega)).trans Y2.out, (qcell Z2.out).trans (by simp), HB2.out.setCell hge _, own_aside P0.out Z2.out (by decide)⟩ ?_
  clear X2 Y2 Z2 HB2 c0 c1 c2 c3 c4 cf P0
  rintro W1 ⟨hx, hy, hz, hb, o0⟩
  have X := hidI hx
  have Y := hidI hy
  have Z := hidI hz
  have HB := hidI hb
  have O0 := hidI o0
  clear hx hy hz hb o0
  obtain ⟨c0, c1, c2, c3, c4, cf⟩ := five_of X.out
  go_wp2_with fail
  refine (toImS_any A.a1 A.c1 m.im W1 (HR.out.later HB.out).2.1 f2).mono ?_
  rintro e V1 ⟨g1, rfl, hown, hb⟩
  have X2 := hidI ((hb.block _ (Array.getElem?_eq_some_iff.1 X.out).1).trans X.out)
  have Y2 := hidI ((hb.block _ (Array.getElem?_eq_some_iff.1 Y.out).1).trans Y.out)
  have Z2 := hidI ((hb.block _ (Array.getElem?_eq_some_iff.1 Z.out).1).trans Z.out)
  have HB2 := hidI (HB.out.trans (hb.mono HB.out.size))
  have P0 := hidI (O0.out.keep fun k g => hb.block k (O0.out.typed g).2.1)
  have P1 := hidI (hown.low HB.out.size)
  clear hown hb c0 c1 c2 c3 c4 cf X Y Z HB O0
  obtain ⟨c0, c1, c2, c3, c4, cf⟩ := five_of Z2.out
  go_upto_region 4 with fail
  refine world_anyI (R := (fun W => W.heap[gx]? = some (.cells #[.slice A.a0 m.rq.length A.c0, .slice A.a1 m.im.length A.c1, .slice A.a2 m.ep.length A.c2, .slice A.a3 m.st.length A.c3, .slice A.a4 m.ex.length A.c4] 28 (0, 0)) ∧ W.heap[gx + 1]? = some (.cells #[.slice none 0 0, .slice none 0 0, .slice none 0 0, .slice none 0 0, .slice none 0 0] 37 (0, 0)) ∧ W.heap[gx + 2]? = some (.cells #[.slice (some ⟨g0, 0, none⟩) m.rq.length m.rq.length, .slice (some ⟨g1, 0, none⟩) m.im.length m.im.length, .slice none 0 0, .slice none 0 0, .slice none 0 0] 37 (0, 0)) ∧ Below w.heap.size w W ∧ OwnR W w.heap.size 9 1 ⟨some ⟨g0, 0, none⟩, m.rq.length⟩ m.rq.length (m.rq.flatMap (fun x => [Value.string x])) ∧ OwnR W w.heap.size 154 3 ⟨some ⟨g1, 0, none⟩, m.im.length⟩ m.im.length (m.im.flatMap imL))) ⟨(heap_setCell_other _ _ _ _ (by show gx ≠ gx + 2; omega)).trans X2.out, (heap_setCell_other _ _ _ _ (by show gx + 1 ≠ gx + 2; omega)).trans Y2.out, (qcell Z2.out).trans (by simp), HB2.out.setCell hge _, own_aside P0.out Z2.out (by decide), own_aside P1.out Z2.out (by decide)⟩ ?_
  clear X2 Y2 Z2 HB2 c0 c1 c2 c3 c4 cf P0 P1
  rintro W2 ⟨hx, hy, hz, hb, o0, o1⟩
  have X := hidI hx
  have Y := hidI hy
  have Z := hidI hz
  have HB := hidI hb
  have O0 := hidI o0
  have O1 := hidI o1
  clear hx hy hz hb o0 o1
  obtain ⟨c0, c1, c2, c3, c4, cf⟩ := five_of X.out
  go_wp2_with fail
  refine (toEpS_any A.a2 A.c2 m.ep W2 (HR.out.later HB.out).2.2.1 f3).mono ?_
  rintro e V2 ⟨g2, rfl, hown, hb⟩
  have X2 := hidI ((hb.block _ (Array.getElem?_eq_some_iff.1 X.out).1).trans X.out)
  have Y2 := hidI ((hb.block _ (Array.getElem?_eq_some_iff.1 Y.out).1).trans Y.out)
  have Z2 := hidI ((hb.block _ (Array.getElem?_eq_some_iff.1 Z.out).1).trans Z.out)
  have HB2 := hidI (HB.out.trans (hb.mono HB.out.size))
  have P0 := hidI (O0.out.keep fun k g => hb.block k (O0.out.typed g).2.1)
  have P1 := hidI (O1.out.keep fun k g => hb.block k (O1.out.typed g).2.1)
  have P2 := hidI (hown.low HB.out.size)
  clear hown hb c0 c1 c2 c3 c4 cf X Y Z HB O0 O1
  obtain ⟨c0, c1, c2, c3, c4, cf⟩ := five_of Z2.out
  go_upto_region 5 with fail
  refine world_anyI (R := (fun W => W.heap[gx]? = some (.cells #[.slice A.a0 m.rq.length A.c0, .slice A.a1 m.im.length A.c1, .slice A.a2 m.ep.length A.c2, .slice A.a3 m.st.length A.c3, .slice A.a4 m.ex.length A.c4] 28 (0, 0)) ∧ W.heap[gx + 1]? = some (.cells #[.slice none 0 0, .slice none 0 0, .slice none 0 0, .slice none 0 0, .slice none 0 0] 37 (0, 0)) ∧ W.heap[gx + 2]? = some (.cells #[.slice (some ⟨g0, 0, none⟩) m.rq.length m.rq.length, .slice (some ⟨g1, 0, none⟩) m.im.length m.im.length, .slice (some ⟨g2, 0, none⟩) m.ep.length m.ep.length, .slice none 0 0, .slice none 0 0] 37 (0, 0)) ∧ Below w.heap.size w W ∧ OwnR W w.heap.size 9 1 ⟨some ⟨g0, 0, none⟩, m.rq.length⟩ m.rq.length (m.rq.flatMap (fun x => [Value.string x])) ∧ OwnR W w.heap.size 154 3 ⟨some ⟨g1, 0, none⟩, m.im.length⟩ m.im.length (m.im.flatMap imL) ∧ OwnR W w.heap.size 79 4 ⟨some ⟨g2, 0, none⟩, m.ep.length⟩ m.ep.length (m.ep.flatMap epL))) ⟨(heap_setCell_other _ _ _ _ (by show gx ≠ gx + 2; omega)).trans X2.out, (heap_setCell_other _ _ _ _ (by show gx + 1 ≠ gx + 2; omega)).trans Y2.out, (qcell Z2.out).trans (by simp), HB2.out.setCell hge _, own_aside P0.out Z2.out (by decide), own_aside P1.out Z2.out (by decide), own_aside P2.out Z2.out (by decide)⟩ ?_
  clear X2 Y2 Z2 HB2 c0 c1 c2 c3 c4 cf P0 P1 P2
  rintro W3 ⟨hx, hy, hz, hb, o0, o1, o2⟩
  have X := hidI hx
  have Y := hidI hy
  have Z := hidI hz
  have HB := hidI hb
  have O0 := hidI o0
  have O1 := hidI o1
  have O2 := hidI o2
  clear hx hy hz hb o0 o1 o2
  obtain ⟨c0, c1, c2, c3, c4, cf⟩ := five_of X.out
  go_wp2_with fail
  refine (toSmS_any A.a3 A.c3 m.st W3 (HR.out.later HB.out).2.2.2.1 f4).mono ?_
  rintro e V3 ⟨g3, rfl, hown, hb⟩
  have X2 := hidI ((hb.block _ (Array.getElem?_eq_some_iff.1 X.out).1).trans X.out)
  have Y2 := hidI ((hb.block _ (Array.getElem?_eq_some_iff.1 Y.out).1).trans Y.out)
  have Z2 := hidI ((hb.block _ (Array.getElem?_eq_some_iff.1 Z.out).1).trans Z.out)
  have HB2 := hidI (HB.out.trans (hb.mono HB.out.size))
  have P0 := hidI (O0.out.keep fun k g => hb.block k (O0.out.typed g).2.1)
  have P1 := hidI (O1.out.keep fun k g => hb.block k (O1.out.typed g).2.1)
  have P2 := hidI (O2.out.keep fun k g => hb.block k (O2.out.typed g).2.1)
  have P3 := hidI (hown.low HB.out.size)
  clear hown hb c0 c1 c2 c3 c4 cf X Y Z HB O0 O1 O2
  obtain ⟨c0, c1, c2, c3, c4, cf⟩ := five_of Z2.out
  go_upto_region 6 with fail
  refine world_anyI (R := (fun W => W.heap[gx]? = some (.cells #[.slice A.a0 m.rq.length A.c0, .slice A.a1 m.im.length A.c1, .slice A.a2 m.ep.length A.c2, .slice A.a3 m.st.length A.c3, .slice A.a4 m.ex.length A.c4] 28 (0, 0)) ∧ W.heap[gx + 1]? = some (.cells #[.slice none 0 0, .slice none 0 0, .slice none 0 0, .slice none 0 0, .slice none 0 0] 37 (0, 0)) ∧ W.heap[gx + 2]? = some (.cells #[.slice (some ⟨g0, 0, none⟩) m.rq.length m.rq.length, .slice (some ⟨g1, 0, none⟩) m.im.length m.im.length, .slice (some ⟨g2, 0, none⟩) m.ep.length m.ep.length, .slice (some ⟨g3, 0, none⟩) m.st.length m.st.length, .slice none 0 0] 37 (0, 0)) ∧ Below w.heap.size w W ∧ OwnR W w.heap.size 9 1 ⟨some ⟨g0, 0, none⟩, m.rq.length⟩ m.rq.length (m.rq.flatMap (fun x => [Value.string x])) ∧ OwnR W w.heap.size 154 3 ⟨some ⟨g1, 0, none⟩, m.im.length⟩ m.im.length (m.im.flatMap imL) ∧ OwnR W w.heap.size 79 4 ⟨some ⟨g2, 0, none⟩, m.ep.length⟩ m.ep.length (m.ep.flatMap epL) ∧ OwnR W w.heap.size 159 3 ⟨some ⟨g3, 0, none⟩, m.st.length⟩ m.st.length (m.st.flatMap smL))) ⟨(heap_setCell_other _ _ _ _ (by show gx ≠ gx + 2; omega)).trans X2.out, (heap_setCell_other _ _ _ _ (by show gx + 1 ≠ gx + 2; omega)).trans Y2.out, (qcell Z2.out).trans (by simp), HB2.out.setCell hge _, own_aside P0.out Z2.out (by decide), own_aside P1.out Z2.out (by decide), own_aside P2.out Z2.out (by decide), own_aside P3.out Z2.out (by decide)⟩ ?_
  clear X2 Y2 Z2 HB2 c0 c1 c2 c3 c4 cf P0 P1 P2 P3
  rintro W4 ⟨hx, hy, hz, hb, o0, o1, o2, o3⟩
  have X := hidI hx
  have Y := hidI hy
  have Z := hidI hz
  have HB := hidI hb
  have O0 := hidI o0
  have O1 := hidI o1
  have O2 := hidI o2
  have O3 := hidI o3
  clear hx hy hz hb o0 o1 o2 o3
  obtain ⟨c0, c1, c2, c3, c4, cf⟩ := five_of X.out
  go_wp2_with fail
  refine (toExS_any A.a4 A.c4 m.ex W4 (HR.out.later HB.out).2.2.2.2 f5).mono ?_
  rintro e V4 ⟨g4, rfl, hown, hb⟩
  have X2 := hidI ((hb.block _ (Array.getElem?_eq_some_iff.1 X.out).1).trans X.out)
  have Y2 := hidI ((hb.block _ (Array.getElem?_eq_some_iff.1 Y.out).1).trans Y.out)
  have Z2 := hidI ((hb.block _ (Array.getElem?_eq_some_iff.1 Z.out).1).trans Z.out)
  have HB2 := hidI (HB.out.trans (hb.mono HB.out.size))
  have P0 := hidI (O0.out.keep fun k g => hb.block k (O0.out.typed g).2.1)
  have P1 := hidI (O1.out.keep fun k g => hb.block k (O1.out.typed g).2.1)
  have P2 := hidI (O2.out.keep fun k g => hb.block k (O2.out.typed g).2.1)
  have P3 := hidI (O3.out.keep fun k g => hb.block k (O3.out.typed g).2.1)
  have P4 := hidI (hown.low HB.out.size)
  clear hown hb c0 c1 c2 c3 c4 cf X Y Z HB O0 O1 O2 O3
  obtain ⟨c0, c1, c2, c3, c4, cf⟩ := five_of Z2.out
  go_upto_region 7 with fail
  refine world_anyI (R := (fun W => W.heap[gx]? = some (.cells #[.slice A.a0 m.rq.length A.c0, .slice A.a1 m.im.length A.c1, .slice A.a2 m.ep.length A.c2, .slice A.a3 m.st.length A.c3, .slice A.a4 m.ex.length A.c4] 28 (0, 0)) ∧ W.heap[gx + 1]? = some (.cells #[.slice none 0 0, .slice none 0 0, .slice none 0 0, .slice none 0 0, .slice none 0 0] 37 (0, 0)) ∧ W.heap[gx + 2]? = some (.cells #[.slice (some ⟨g0, 0, none⟩) m.rq.length m.rq.length, .slice (some ⟨g1, 0, none⟩) m.im.length m.im.length, .slice (some ⟨g2, 0, none⟩) m.ep.length m.ep.length, .slice (some ⟨g3, 0, none⟩) m.st.length m.st.length, .slice (some ⟨g4, 0, none⟩) m.ex.length m.ex.length] 37 (0, 0)) ∧ Below w.heap.size w W ∧ OwnR W w.heap.size 9 1 ⟨some ⟨g0, 0, none⟩, m.rq.length⟩ m.rq.length (m.rq.flatMap (fun x => [Value.string x])) ∧ OwnR W w.heap.size 154 3 ⟨some ⟨g1, 0, none⟩, m.im.length⟩ m.im.length (m.im.flatMap imL) ∧ OwnR W w.heap.size 79 4 ⟨some ⟨g2, 0, none⟩, m.ep.length⟩ m.ep.length (m.ep.flatMap epL) ∧ OwnR W w.heap.size 159 3 ⟨some ⟨g3, 0, none⟩, m.st.length⟩ m.st.length (m.st.flatMap smL) ∧ OwnR W w.heap.size 96 6 ⟨some ⟨g4, 0, none⟩, m.ex.length⟩ m.ex.length (m.ex.flatMap exL))) ⟨(heap_setCell_other _ _ _ _ (by show gx ≠ gx + 2; omega)).trans X2.out, (heap_setCell_other _ _ _ _ (by show gx + 1 ≠ gx + 2; omega)).trans Y2.out, (qcell Z2.out).trans (by simp), HB2.out.setCell hge _, own_aside P0.out Z2.out (by decide), own_aside P1.out Z2.out (by decide), own_aside P2.out Z2.out (by decide), own_aside P3.out Z2.out (by decide), own_aside P4.out Z2.out (by decide)⟩ ?_
  clear X2 Y2 Z2 HB2 c0 c1 c2 c3 c4 cf P0 P1 P2 P3 P4
  rintro W5 ⟨hx, hy, hz, hb, o0, o1, o2, o3, o4⟩
  have Y := hidI hy
  have Z := hidI hz
  have HB := hidI hb
  have O0 := hidI o0
  have O1 := hidI o1
  have O2 := hidI o2
  have O3 := hidI o3
  have O4 := hidI o4
  clear hx hy hz hb o0 o1 o2 o3 o4
  obtain ⟨c0, c1, c2, c3, c4, cf⟩ := five_of Z.out
  obtain ⟨d0, d1, d2, d3, d4, df⟩ := five_of Y.out
  go_wp2
  refine bodyPost_ret (results_cell_row rfl _ _ (gx + 1) 37 #[.slice (some ⟨g0, 0, none⟩) m.rq.length m.rq.length, .slice (some ⟨g1, 0, none⟩) m.im.length m.im.length, .slice (some ⟨g2, 0, none⟩) m.ep.length m.ep.length, .slice (some ⟨g3, 0, none⟩) m.st.length m.st.length, .slice (some ⟨g4, 0, none⟩) m.ex.length m.ex.length] (0, 0) _ rfl ?_ Try.underlying37 rfl (by kernel_rfl)) rfl ?_
  · exact put5 Y.out
  · refine ⟨⟨⟨some ⟨g0, 0, none⟩, m.rq.length⟩, ⟨some ⟨g1, 0, none⟩, m.im.length⟩, ⟨some ⟨g2, 0, none⟩, m.ep.length⟩, ⟨some ⟨g3, 0, none⟩, m.st.length⟩, ⟨some ⟨g4, 0, none⟩, m.ex.length⟩, ⟨none, 0⟩⟩, rfl, ⟨?_, ?_, ?_, ?_, ?_⟩, ((((HB.out.setCell hge1 _).setCell hge1 _).setCell hge1 _).setCell hge1 _).setCell hge1 _⟩
    · rw [map_flatT]
      exact own_aside5 O0.out Y.out (by decide)
    · exact own_aside5 O1.out Y.out (by decide)
    · exact own_aside5 O2.out Y.out (by decide)
    · exact own_aside5 O3.out Y.out (by decide)
    · exact own_aside5 O4.out Y.out (by decide)
end Go.Proofs.Ytdbpknmoacjodaa
namespace Go.Proofs.Ytdbpknmoacjodaa
open Go.RowKit Go.PlainAid Go.Sort

set_option maxRecDepth 100000 in
set_option maxHeartbeats 3200000 in
theorem eqStringS_zero (a1 a2 : Option Addr) (c1 c2 : Nat) (w : World) : Calls Try.prog 61 #[.slice a1 0 c1, .slice a2 0 c2] w fun e w' => e = .returned (.bool true) ∧ Below w.heap.size w w' := by
  go_enter Try.func61, Try.ntmps61
  go_wp2
  go_loopg [5] 1 (fun k i wr => k = 1 ∧ i = .int .i64 0 ∧ wr = w)
  case atStart => exact ⟨rfl, rfl, rfl⟩
  case round =>
    obtain ⟨rfl, rfl, rfl⟩ := hrel
    go_wp2
    go_ret
    exact ⟨rfl, Below.refl _ _⟩
set_option maxRecDepth 100000 in
set_option maxHeartbeats 3200000 in
theorem eqStringS_row (b1 b2 g1 g2 : Nat) (r1 r2 : Rw) (l : List ByteArray) (w : World) (h1 : OwnR w b1 9 1 r1 l.length (l.flatMap (fun x => [Value.string x]))) (h2 : OwnR w b2 9 1 r2 l.length (l.flatMap (fun x => [Value.string x]))) (e1 : r1.a = some ⟨g1, 0, none⟩) (e2 : r2.a = some ⟨g2, 0, none⟩) (hl : l.length ≤ 4294967296) :
    Calls Try.prog 61 #[.slice (some ⟨g1, 0, none⟩) l.length r1.cap, .slice (some ⟨g2, 0, none⟩) l.length r2.cap] w fun e w' => e = .returned (.bool true) ∧ Below w.heap.size w w' := by
  have H1 := hidI h1
  have H2 := hidI h2
  have E1 := hidI e1
  have E2 := hidI e2
  clear h1 h2 e1 e2
  go_enter Try.func61, Try.ntmps61
  go_wp2
  go_loopg [5] l.length (fun k i wr => ∃ j : Nat, i = .int .i64 j ∧ j + k = l.length ∧ Below w.heap.size w wr)
  case atStart => exact ⟨0, rfl, by omega, Below.refl _ _⟩
  case round =>
    obtain ⟨j, rfl, hj, hb⟩ := hrel
    have HB := hidI hb
    clear hb
    by_cases hlt : j < l.length
    · have hlti : (j : Int) < (l.length : Int) := by omega
      obtain ⟨x, hx⟩ := rowsome hlt
      obtain ⟨g', ga, h1⟩ := OwnR.elem (f := (fun x => [Value.string x])) (m := 1) (fun _ => rfl) (H1.out.keep fun k g => HB.out.block k (H1.out.typed g).2.1) hx
      obtain rfl : g' = g1 := by have := ga.symm.trans E1.out; simpa using this
      obtain ⟨g', gb, h2⟩ := OwnR.elem (f := (fun x => [Value.string x])) (m := 1) (fun _ => rfl) (H2.out.keep fun k g => HB.out.block k (H2.out.typed g).2.1) hx
      obtain rfl : g' = g2 := by have := gb.symm.trans E2.out; simpa using this
      have C0 := hidI (h1 0 (by omega))
      have D0 := hidI (h2 0 (by omega))
      clear h1 h2 ga gb hx
      obtain ⟨j1, hj1⟩ : ∃ j1, j1 = j + 1 := ⟨_, rfl⟩
      have ej : (j : Int) + 1 = (j1 : Int) := by omega
      have HJ := hidI hj1
      clear hj1
      go_wp2
      have k0 := cell_regrown C0.out
      have l0 := cell_regrown D0.out
      simp only [Nat.add_zero, Nat.mul_one] at k0 l0
      refine wp_region_quiet_below (by kernel_rfl) (by kernel_rfl) ?_
      repeat (go_big_quiet_step (fail))
      refine wpQuiet_nil ?_
      intro w2 hw'
      obtain ⟨⟨dq, osq⟩, hw''⟩ := hw'
      have HB2 : Hid (Below w.heap.size w w2) := by show Below _ _ _; rw [hw'']; exact HB.out.trans ((below_regrown wr dq osq).mono HB.out.size)
      clear hw'' k0 l0 C0 D0
      go_wp2
      go_roundg (gk - 1)
      case rel => exact ⟨j1, rfl, by have := HJ.out; omega, HB2.out⟩
      case measure => omega
    · have hlti : ¬ (j : Int) < (l.length : Int) := by omega
      go_wp2
      go_ret
      exact ⟨rfl, HB.out⟩
theorem eqStringS_any (b1 b2 : Nat) (r1 r2 : Rw) (l : List ByteArray) (w : World) (h1 : OwnR w b1 9 1 r1 l.length (l.flatMap (fun x => [Value.string x]))) (h2 : OwnR w b2 9 1 r2 l.length (l.flatMap (fun x => [Value.string x]))) (hl : l.length ≤ 4294967296) :
    Calls Try.prog 61 #[.slice r1.a l.length r1.cap, .slice r2.a l.length r2.cap] w fun e w' => e = .returned (.bool true) ∧ Below w.heap.size w w' := by
  by_cases h0 : l.length = 0
  · rw [h0]
    exact eqStringS_zero _ _ _ _ w
  · rcases h1.nil_or with ⟨_, _, e⟩ | ⟨g1, e1⟩
    · exact absurd e h0
    · rcases h2.nil_or with ⟨_, _, e⟩ | ⟨g2, e2⟩
      · exact absurd e h0
      · rw [e1, e2]
        exact eqStringS_row b1 b2 g1 g2 r1 r2 l w h1 h2 e1 e2 hl
set_option maxRecDepth 100000 in
set_option maxHeartbeats 3200000 in
theorem eqImp_any (x : Im) (w : World) : Calls Try.prog 131 #[.agg #[.string x.spec, .string x.first, .string x.loc], .agg #[.string x.spec, .string x.first, .string x.loc]] w fun e w' => e = .returned (.bool true) ∧ Below w.heap.size w w' := by
  go_enter Try.func131, Try.ntmps131
  go_wp2
  go_ret
  exact ⟨rfl, ((Below.refl _ _).alloc (Nat.le_refl _) _).alloc (by show _ ≤ (w.heap.push _).size; simp) _⟩
set_option maxRecDepth 100000 in
set_option maxHeartbeats 3200000 in
theorem eqImpS_zero (a1 a2 : Option Addr) (c1 c2 : Nat) (w : World) : Calls Try.prog 62 #[.slice a1 0 c1, .slice a2 0 c2] w fun e w' => e = .returned (.bool true) ∧ Below w.heap.size w w' := by
  go_enter Try.func62, Try.ntmps62
  go_wp2
  go_loopg [5] 1 (fun k i wr => k = 1 ∧ i = .int .i64 0 ∧ wr = w)
  case atStart => exact ⟨rfl, rfl, rfl⟩
  case round =>
    obtain ⟨rfl, rfl, rfl⟩ := hrel
    go_wp2
    go_ret
    exact ⟨rfl, Below.refl _ _⟩
set_option maxRecDepth 100000 in
set_option maxHeartbeats 3200000 in
theorem eqImpS_row (b1 b2 g1 g2 : Nat) (r1 r2 : Rw) (l : List Im) (w : World) (h1 : OwnR w b1 154 3 r1 l.length (l.flatMap imL)) (h2 : OwnR w b2 154 3 r2 l.length (l.flatMap imL)) (e1 : r1.a = some ⟨g1, 0, none⟩) (e2 : r2.a = some ⟨g2, 0, none⟩) (hl : l.length ≤ 4294967296) :
    Calls Try.prog 62 #[.slice (some ⟨g1, 0, none⟩) l.length r1.cap, .slice (some ⟨g2, 0, none⟩) l.length r2.cap] w fun e w' => e = .returned (.bool true) ∧ Below w.heap.size w w' := by
  have H1 := hidI h1
  have H2 := hidI h2
  have E1 := hidI e1
  have E2 := hidI e2
  clear h1 h2 e1 e2
  go_enter Try.func62, Try.ntmps62
  go_wp2
  go_loopg [5] l.length (fun k i wr => ∃ j : Nat, i = .int .i64 j ∧ j + k = l.length ∧ Below w.heap.size w wr)
  case atStart => exact ⟨0, rfl, by omega, Below.refl _ _⟩
  case round =>
    obtain ⟨j, rfl, hj, hb⟩ := hrel
    have HB := hidI hb
    clear hb
    by_cases hlt : j < l.length
    · have hlti : (j : Int) < (l.length : Int) := by omega
      obtain ⟨x, hx⟩ := rowsome hlt
      obtain ⟨g', ga, h1⟩ := OwnR.elem (f := imL) (m := 3) (fun _ => rfl) (H1.out.keep fun k g => HB.out.block k (H1.out.typed g).2.1) hx
      obtain rfl : g' = g1 := by have := ga.symm.trans E1.out; simpa using this
      obtain ⟨g', gb, h2⟩ := OwnR.elem (f := imL) (m := 3) (fun _ => rfl) (H2.out.keep fun k g => HB.out.block k (H2.out.typed g).2.1) hx
      obtain rfl : g' = g2 := by have := gb.symm.trans E2.out; simpa using this
      have C0 := hidI (h1 0 (by omega))
      have D0 := hidI (h2 0 (by omega))
      have C1 := hidI (h1 1 (by omega))
      have D1 := hidI (h2 1 (by omega))
      have C2 := hidI (h1 2 (by omega))
      have D2 := hidI (h2 2 (by omega))
      clear h1 h2 ga gb hx
      have cQ : ∀ d os, Calls Try.prog 131 #[.agg #[.string x.spec, .string x.first, .string x.loc], .agg #[.string x.spec, .string x.first, .string x.loc]] (grow (redrawn wr d) os) fun e w'' => e = .returned (.bool true) ∧ ∃ p : Regrown, w'' = grow (redrawn wr p.d) p.os := fun d os => Calls.regrown_of (eqImp_any x _)
      obtain ⟨j1, hj1⟩ : ∃ j1, j1 = j + 1 := ⟨_, rfl⟩
      have ej : (j : Int) + 1 = (j1 : Int) := by omega
      have HJ := hidI hj1
      clear hj1
      go_wp2
      have k0 := cell_regrown C0.out
      have l0 := cell_regrown D0.out
      have k1 := cell_regrown C1.out
      have l1 := cell_regrown D1.out
      have k2 := cell_regrown C2.out
      have l2 := cell_regrown D2.out
      simp only [Nat.add_zero] at k0 l0
      refine wp_region_quiet_below (by kernel_rfl) (by kernel_rfl) ?_
      repeat (go_big_quiet_step (exact cQ _ _))
      refine wpQuiet_nil ?_
      intro w2 hw'
      obtain ⟨⟨dq, osq⟩, hw''⟩ := hw'
      have HB2 : Hid (Below w.heap.size w w2) := by show Below _ _ _; rw [hw'']; exact HB.out.trans ((below_regrown wr dq osq).mono HB.out.size)
      clear hw'' k0 l0 C0 D0 k1 l1 C1 D1 k2 l2 C2 D2 cQ
      go_wp2
      go_roundg (gk - 1)
      case rel => exact ⟨j1, rfl, by have := HJ.out; omega, HB2.out⟩
      case measure => omega
    · have hlti : ¬ (j : Int) < (l.length : Int) := by omega
      go_wp2
      go_ret
      exact ⟨rfl, HB.out⟩
theorem eqImpS_any (b1 b2 : Nat) (r1 r2 : Rw) (l : List Im) (w : World) (h1 : OwnR w b1 154 3 r1 l.length (l.flatMap imL)) (h2 : OwnR w b2 154 3 r2 l.length (l.flatMap imL)) (hl : l.length ≤ 4294967296) :
    Calls Try.prog 62 #[.slice r1.a l.length r1.cap, .slice r2.a l.length r2.cap] w fun e w' => e = .returned (.bool true) ∧ Below w.heap.size w w' := by
  by_cases h0 : l.length = 0
  · rw [h0]
    exact eqImpS_zero _ _ _ _ w
  · rcases h1.nil_or with ⟨_, _, e⟩ | ⟨g1, e1⟩
    · exact absurd e h0
    · rcases h2.nil_or with ⟨_, _, e⟩ | ⟨g2, e2⟩
      · exact absurd e h0
      · rw [e1, e2]
        exact eqImpS_row b1 b2 g1 g2 r1 r2 l w h1 h2 e1 e2 hl
set_option maxRecDepth 100000 in
set_option maxHeartbeats 3200000 in
theorem eqExp_any (x : Ep) (w : World) : Calls Try.prog 132 #[.agg #[.int .i64 x.kind, .string x.name, .string x.loc, .string x.spec], .agg #[.int .i64 x.kind, .string x.name, .string x.loc, .string x.spec]] w fun e w' => e = .returned (.bool true) ∧ Below w.heap.size w w' := by
  go_enter Try.func132, Try.ntmps132
  go_wp2
  go_ret
  exact ⟨rfl, ((Below.refl _ _).alloc (Nat.le_refl _) _).alloc (by show _ ≤ (w.heap.push _).size; simp) _⟩
set_option maxRecDepth 100000 in
set_option maxHeartbeats 3200000 in
theorem eqExpS_zero (a1 a2 : Option Addr) (c1 c2 : Nat) (w : World) : Calls Try.prog 63 #[.slice a1 0 c1, .slice a2 0 c2] w fun e w' => e = .returned (.bool true) ∧ Below w.heap.size w w' := by
  go_enter Try.func63, Try.ntmps63
  go_wp2
  go_loopg [5] 1 (fun k i wr => k = 1 ∧ i = .int .i64 0 ∧ wr = w)
  case atStart => exact ⟨rfl, rfl, rfl⟩
  case round =>
    obtain ⟨rfl, rfl, rfl⟩ := hrel
    go_wp2
    go_ret
    exact ⟨rfl, Below.refl _ _⟩
set_option maxRecDepth 100000 in
set_option maxHeartbeats 3200000 in
theorem eqExpS_row (b1 b2 g1 g2 : Nat) (r1 r2 : Rw) (l : List Ep) (w : World) (h1 : OwnR w b1 79 4 r1 l.length (l.flatMap epL)) (h2 : OwnR w b2 79 4 r2 l.length (l.flatMap epL)) (e1 : r1.a = some ⟨g1, 0, none⟩) (e2 : r2.a = some ⟨g2, 0, none⟩) (hl : l.length ≤ 4294967296) :
    Calls Try.prog 63 #[.slice (some ⟨g1, 0, none⟩) l.length r1.cap, .slice (some ⟨g2, 0, none⟩) l.length r2.cap] w fun e w' => e = .returned (.bool true) ∧ Below w.heap.size w w' := by
  have H1 := hidI h1
  have H2 := hidI h2
  have E1 := hidI e1
  have E2 := hidI e2
  clear h1 h2 e1 e2
  go_enter Try.func63, Try.ntmps63
  go_wp2
  go_loopg [5] l.length (fun k i wr => ∃ j : Nat, i = .int .i64 j ∧ j + k = l.length ∧ Below w.heap.size w wr)
  case atStart => exact ⟨0, rfl, by omega, Below.refl _ _⟩
  case round =>
    obtain ⟨j, rfl, hj, hb⟩ := hrel
    have HB := hidI hb
    clear hb
    by_cases hlt : j < l.length
    · have hlti : (j : Int) < (l.length : Int) := by omega
      obtain ⟨x, hx⟩ := rowsome hlt
      obtain ⟨g', ga, h1⟩ := OwnR.elem (f := epL) (m := 4) (fun _ => rfl) (H1.out.keep fun k g => HB.out.block k (H1.out.typed g).2.1) hx
      obtain rfl : g' = g1 := by have := ga.symm.trans E1.out; simpa using this
      obtain ⟨g', gb, h2⟩ := OwnR.elem (f := epL) (m := 4) (fun _ => rfl) (H2.out.keep fun k g => HB.out.block k (H2.out.typed g).2.1) hx
      obtain rfl : g' = g2 := by have := gb.symm.trans E2.out; simpa using this
      have C0 := hidI (h1 0 (by omega))
      have D0 := hidI (h2 0 (by omega))
      have C1 := hidI (h1 1 (by omega))
      have D1 := hidI (h2 1 (by omega))
      have C2 := hidI (h1 2 (by omega))
      have D2 := hidI (h2 2 (by omega))
      have C3 := hidI (h1 3 (by omega))
      have D3 := hidI (h2 3 (by omega))
      clear h1 h2 ga gb hx
      have cQ : ∀ d os, Calls Try.prog 132 #[.agg #[.int .i64 x.kind, .string x.name, .string x.loc, .string x.spec], .agg #[.int .i64 x.kind, .string x.name, .string x.loc, .string x.spec]] (grow (redrawn wr d) os) fun e w'' => e = .returned (.bool true) ∧ ∃ p : Regrown, w'' = grow (redrawn wr p.d) p.os := fun d os => Calls.regrown_of (eqExp_any x _)
      obtain ⟨j1, hj1⟩ : ∃ j1, j1 = j + 1 := ⟨_, rfl⟩
      have ej : (j : Int) + 1 = (j1 : Int) := by omega
      have HJ := hidI hj1
      clear hj1
      go_wp2
      have k0 := cell_regrown C0.out
      have l0 := cell_regrown D0.out
      have k1 := cell_regrown C1.out
      have l1 := cell_regrown D1.out
      have k2 := cell_regrown C2.out
      have l2 := cell_regrown D2.out
      have k3 := cell_regrown C3.out
      have l3 := cell_regrown D3.out
      simp only [Nat.add_zero] at k0 l0
      refine wp_region_quiet_below (by kernel_rfl) (by kernel_rfl) ?_
      repeat (go_big_quiet_step (exact cQ _ _))
      refine wpQuiet_nil ?_
      intro w2 hw'
      obtain ⟨⟨dq, osq⟩, hw''⟩ := hw'
      have HB2 : Hid (Below w.heap.size w w2) := by show Below _ _ _; rw [hw'']; exact HB.out.trans ((below_regrown wr dq osq).mono HB.out.size)
      clear hw'' k0 l0 C0 D0 k1 l1 C1 D1 k2 l2 C2 D2 k3 l3 C3 D3 cQ
      go_wp2
      go_roundg (gk - 1)
      case rel => exact ⟨j1, rfl, by have := HJ.out; omega, HB2.out⟩
      case measure => omega
    · have hlti : ¬ (j : Int) < (l.length : Int) := by omega
      go_wp2
      go_ret
      exact ⟨rfl, HB.out⟩
theorem eqExpS_any (b1 b2 : Nat) (r1 r2 : Rw) (l : List Ep) (w : World) (h1 : OwnR w b1 79 4 r1 l.length (l.flatMap epL)) (h2 : OwnR w b2 79 4 r2 l.length (l.flatMap epL)) (hl : l.length ≤ 4294967296) :
    Calls Try.prog 63 #[.slice r1.a l.length r1.cap, .slice r2.a l.length r2.cap] w fun e w' => e = .returned (.bool true) ∧ Below w.heap.size w w' := by
  by_cases h0 : l.length = 0
  · rw [h0]
    exact eqExpS_zero _ _ _ _ w
  · rcases h1.nil_or with ⟨_, _, e⟩ | ⟨g1, e1⟩
    · exact absurd e h0
    · rcases h2.nil_or with ⟨_, _, e⟩ | ⟨g2, e2⟩
      · exact absurd e h0
      · rw [e1, e2]
        exact eqExpS_row b1 b2 g1 g2 r1 r2 l w h1 h2 e1 e2 hl
set_option maxRecDepth 100000 in
set_option maxHeartbeats 3200000 in
theorem eqStmt_any (x : Sm) (w : World) : Calls Try.prog 133 #[.agg #[.int .i64 x.kind, .string x.name, .int .i64 x.expr], .agg #[.int .i64 x.kind, .string x.name, .int .i64 x.expr]] w fun e w' => e = .returned (.bool true) ∧ Below w.heap.size w w' := by
  go_enter Try.func133, Try.ntmps133
  go_wp2
  go_ret
  exact ⟨rfl, ((Below.refl _ _).alloc (Nat.le_refl _) _).alloc (by show _ ≤ (w.heap.push _).size; simp) _⟩
set_option maxRecDepth 100000 in
set_option maxHeartbeats 3200000 in
theorem eqStmtS_zero (a1 a2 : Option Addr) (c1 c2 : Nat) (w : World) : Calls Try.prog 64 #[.slice a1 0 c1, .slice a2 0 c2] w fun e w' => e = .returned (.bool true) ∧ Below w.heap.size w w' := by
  go_enter Try.func64, Try.ntmps64
  go_wp2
  go_loopg [5] 1 (fun k i wr => k = 1 ∧ i = .int .i64 0 ∧ wr = w)
  case atStart => exact ⟨rfl, rfl, rfl⟩
  case round =>
    obtain ⟨rfl, rfl, rfl⟩ := hrel
    go_wp2
    go_ret
    exact ⟨rfl, Below.refl _ _⟩
set_option maxRecDepth 100000 in
set_option maxHeartbeats 3200000 in
theorem eqStmtS_row (b1 b2 g1 g2 : Nat) (r1 r2 : Rw) (l : List Sm) (w : World) (h1 : OwnR w b1 159 3 r1 l.length (l.flatMap smL)) (h2 : OwnR w b2 159 3 r2 l.length (l.flatMap smL)) (e1 : r1.a = some ⟨g1, 0, none⟩) (e2 : r2.a = some ⟨g2, 0, none⟩) (hl : l.length ≤ 4294967296) :
    Calls Try.prog 64 #[.slice (some ⟨g1, 0, none⟩) l.length r1.cap, .slice (some ⟨g2, 0, none⟩) l.length r2.cap] w fun e w' => e = .returned (.bool true) ∧ Below w.heap.size w w' := by
  have H1 := hidI h1
  have H2 := hidI h2
  have E1 := hidI e1
  have E2 := hidI e2
  clear h1 h2 e1 e2
  go_enter Try.func64, Try.ntmps64
  go_wp2
  go_loopg [5] l.length (fun k i wr => ∃ j : Nat, i = .int .i64 j ∧ j + k = l.length ∧ Below w.heap.size w wr)
  case atStart => exact ⟨0, rfl, by omega, Below.refl _ _⟩
  case round =>
    obtain ⟨j, rfl, hj, hb⟩ := hrel
    have HB := hidI hb
    clear hb
    by_cases hlt : j < l.length
    · have hlti : (j : Int) < (l.length : Int) := by omega
      obtain ⟨x, hx⟩ := rowsome hlt
      obtain ⟨g', ga, h1⟩ := OwnR.elem (f := smL) (m := 3) (fun _ => rfl) (H1.out.keep fun k g => HB.out.block k (H1.out.typed g).2.1) hx
      obtain rfl : g' = g1 := by have := ga.symm.trans E1.out; simpa using this
      obtain ⟨g', gb, h2⟩ := OwnR.elem (f := smL) (m := 3) (fun _ => rfl) (H2.out.keep fun k g => HB.out.block k (H2.out.typed g).2.1) hx
      obtain rfl : g' = g2 := by have := gb.symm.trans E2.out; simpa using this
      have C0 := hidI (h1 0 (by omega))
      have D0 := hidI (h2 0 (by omega))
      have C1 := hidI (h1 1 (by omega))
      have D1 := hidI (h2 1 (by omega))
      have C2 := hidI (h1 2 (by omega))
      have D2 := hidI (h2 2 (by omega))
      clear h1 h2 ga gb hx
      have cQ : ∀ d os, Calls Try.prog 133 #[.agg #[.int .i64 x.kind, .string x.name, .int .i64 x.expr], .agg #[.int .i64 x.kind, .string x.name, .int .i64 x.expr]] (grow (redrawn wr d) os) fun e w'' => e = .returned (.bool true) ∧ ∃ p : Regrown, w'' = grow (redrawn wr p.d) p.os := fun d os => Calls.regrown_of (eqStmt_any x _)
      obtain ⟨j1, hj1⟩ : ∃ j1, j1 = j + 1 := ⟨_, rfl⟩
      have ej : (j : Int) + 1 = (j1 : Int) := by omega
      have HJ := hidI hj1
      clear hj1
      go_wp2
      have k0 := cell_regrown C0.out
      have l0 := cell_regrown D0.out
      have k1 := cell_regrown C1.out
      have l1 := cell_regrown D1.out
      have k2 := cell_regrown C2.out
      have l2 := cell_regrown D2.out
      simp only [Nat.add_zero] at k0 l0
      refine wp_region_quiet_below (by kernel_rfl) (by kernel_rfl) ?_
      repeat (go_big_quiet_step (exact cQ _ _))
      refine wpQuiet_nil ?_
      intro w2 hw'
      obtain ⟨⟨dq, osq⟩, hw''⟩ := hw'
      have HB2 : Hid (Below w.heap.size w w2) := by show Below _ _ _; rw [hw'']; exact HB.out.trans ((below_regrown wr dq osq).mono HB.out.size)
      clear hw'' k0 l0 C0 D0 k1 l1 C1 D1 k2 l2 C2 D2 cQ
      go_wp2
      go_roundg (gk - 1)
      case rel => exact ⟨j1, rfl, by have := HJ.out; omega, HB2.out⟩
      case measure => omega
    · have hlti : ¬ (j : Int) < (l.length : Int) := by omega
      go_wp2
      go_ret
      exact ⟨rfl, HB.out⟩
theorem eqStmtS_any (b1 b2 : Nat) (r1 r2 : Rw) (l : List Sm) (w : World) (h1 : OwnR w b1 159 3 r1 l.length (l.flatMap smL)) (h2 : OwnR w b2 159 3 r2 l.length (l.flatMap smL)) (hl : l.length ≤ 4294967296) :
    Calls Try.prog 64 #[.slice r1.a l.length r1.cap, .slice r2.a l.length r2.cap] w fun e w' => e = .returned (.bool true) ∧ Below w.heap.size w w' := by
  by_cases h0 : l.length = 0
  · rw [h0]
    exact eqStmtS_zero _ _ _ _ w
  · rcases h1.nil_or with ⟨_, _, e⟩ | ⟨g1, e1⟩
    · exact absurd e h0
    · rcases h2.nil_or with ⟨_, _, e⟩ | ⟨g2, e2⟩
      · exact absurd e h0
      · rw [e1, e2]
        exact eqStmtS_row b1 b2 g1 g2 r1 r2 l w h1 h2 e1 e2 hl
set_option maxRecDepth 100000 in
set_option maxHeartbeats 3200000 in
theorem eqExpr_any (x : Ex) (w : World) : Calls Try.prog 134 #[.agg #[.int .i64 x.kind, .int .i64 x.num, .string x.name, .string x.field, .int .i64 x.l, .int .i64 x.r], .agg #[.int .i64 x.kind, .int .i64 x.num, .string x.name, .string x.field, .int .i64 x.l, .int .i64 x.r]] w fun e w' => e = .returned (.bool true) ∧ Below w.heap.size w w' := by
  go_enter Try.func134, Try.ntmps134
  go_wp2
  go_ret
  exact ⟨rfl, ((Below.refl _ _).alloc (Nat.le_refl _) _).alloc (by show _ ≤ (w.heap.push _).size; simp) _⟩
set_option maxRecDepth 100000 in
set_option maxHeartbeats 3200000 in
theorem eqExprS_zero (a1 a2 : Option Addr) (c1 c2 : Nat) (w : World) : Calls Try.prog 65 #[.slice a1 0 c1, .slice a2 0 c2] w fun e w' => e = .returned (.bool true) ∧ Below w.heap.size w w' := by
  go_enter Try.func65, Try.ntmps65
  go_wp2
  go_loopg [5] 1 (fun k i wr => k = 1 ∧ i = .int .i64 0 ∧ wr = w)
  case atStart => exact ⟨rfl, rfl, rfl⟩
  case round =>
    obtain ⟨rfl, rfl, rfl⟩ := hrel
    go_wp2
    go_ret
    exact ⟨rfl, Below.refl _ _⟩
set_option maxRecDepth 100000 in
set_option maxHeartbeats 3200000 in
theorem eqExprS_row (b1 b2 g1 g2 : Nat) (r1 r2 : Rw) (l : List Ex) (w : World) (h1 : OwnR w b1 96 6 r1 l.length (l.flatMap exL)) (h2 : OwnR w b2 96 6 r2 l.length (l.flatMap exL)) (e1 : r1.a = some ⟨g1, 0, none⟩) (e2 : r2.a = some ⟨g2, 0, none⟩) (hl : l.length ≤ 4294967296) :
    Calls Try.prog 65 #[.slice (some ⟨g1, 0, none⟩) l.length r1.cap, .slice (some ⟨g2, 0, none⟩) l.length r2.cap] w fun e w' => e = .returned (.bool true) ∧ Below w.heap.size w w' := by
  have H1 := hidI h1
  have H2 := hidI h2
  have E1 := hidI e1
  have E2 := hidI e2
  clear h1 h2 e1 e2
  go_enter Try.func65, Try.ntmps65
  go_wp2
  go_loopg [5] l.length (fun k i wr => ∃ j : Nat, i = .int .i64 j ∧ j + k = l.length ∧ Below w.heap.size w wr)
  case atStart => exact ⟨0, rfl, by omega, Below.refl _ _⟩
  case round =>
    obtain ⟨j, rfl, hj, hb⟩ := hrel
    have HB := hidI hb
    clear hb
    by_cases hlt : j < l.length
    · have hlti : (j : Int) < (l.length : Int) := by omega
      obtain ⟨x, hx⟩ := rowsome hlt
      obtain ⟨g', ga, h1⟩ := OwnR.elem (f := exL) (m := 6) (fun _ => rfl) (H1.out.keep fun k g => HB.out.block k (H1.out.typed g).2.1) hx
      obtain rfl : g' = g1 := by have := ga.symm.trans E1.out; simpa using this
      obtain ⟨g', gb, h2⟩ := OwnR.elem (f := exL) (m := 6) (fun _ => rfl) (H2.out.keep fun k g => HB.out.block k (H2.out.typed g).2.1) hx
      obtain rfl : g' = g2 := by have := gb.symm.trans E2.out; simpa using this
      have C0 := hidI (h1 0 (by omega))
      have D0 := hidI (h2 0 (by omega))
      have C1 := hidI (h1 1 (by omega))
      have D1 := hidI (h2 1 (by omega))
      have C2 := hidI (h1 2 (by omega))
      have D2 := hidI (h2 2 (by omega))
      have C3 := hidI (h1 3 (by omega))
      have D3 := hidI (h2 3 (by omega))
      have C4 := hidI (h1 4 (by omega))
      have D4 := hidI (h2 4 (by omega))
      have C5 := hidI (h1 5 (by omega))
      have D5 := hidI (h2 5 (by omega))
      clear h1 h2 ga gb hx
      have cQ : ∀ d os, Calls Try.prog 134 #[.agg #[.int .i64 x.kind, .int .i64 x.num, .string x.name, .string x.field, .int .i64 x.l, .int .i64 x.r], .agg #[.int .i64 x.kind, .int .i64 x.num, .string x.name, .string x.field, .int .i64 x.l, .int .i64 x.r]] (grow (redrawn wr d) os) fun e w'' => e = .returned (.bool true) ∧ ∃ p : Regrown, w'' = grow (redrawn wr p.d) p.os := fun d os => Calls.regrown_of (eqExpr_any x _)
      obtain ⟨j1, hj1⟩ : ∃ j1, j1 = j + 1 := ⟨_, rfl⟩
      have ej : (j : Int) + 1 = (j1 : Int) := by omega
      have HJ := hidI hj1
      clear hj1
      go_wp2
      have k0 := cell_regrown C0.out
      have l0 := cell_regrown D0.out
      have k1 := cell_regrown C1.out
      have l1 := cell_regrown D1.out
      have k2 := cell_regrown C2.out
      have l2 := cell_regrown D2.out
      have k3 := cell_regrown C3.out
      have l3 := cell_regrown D3.out
      have k4 := cell_regrown C4.out
      have l4 := cell_regrown D4.out
      have k5 := cell_regrown C5.out
      have l5 := cell_regrown D5.out
      simp only [Nat.add_zero] at k0 l0
      refine wp_region_quiet_below (by kernel_rfl) (by kernel_rfl) ?_
      repeat (go_big_quiet_step (exact cQ _ _))
      refine wpQuiet_nil ?_
      intro w2 hw'
      obtain ⟨⟨dq, osq⟩, hw''⟩ := hw'
      have HB2 : Hid (Below w.heap.size w w2) := by show Below _ _ _; rw [hw'']; exact HB.out.trans ((below_regrown wr dq osq).mono HB.out.size)
      clear hw'' k0 l0 C0 D0 k1 l1 C1 D1 k2 l2 C2 D2 k3 l3 C3 D3 k4 l4 C4 D4 k5 l5 C5 D5 cQ
      go_wp2
      go_roundg (gk - 1)
      case rel => exact ⟨j1, rfl, by have := HJ.out; omega, HB2.out⟩
      case measure => omega
    · have hlti : ¬ (j : Int) < (l.length : Int) := by omega
      go_wp2
      go_ret
      exact ⟨rfl, HB.out⟩
theorem eqExprS_any (b1 b2 : Nat) (r1 r2 : Rw) (l : List Ex) (w : World) (h1 : OwnR w b1 96 6 r1 l.length (l.flatMap exL)) (h2 : OwnR w b2 96 6 r2 l.length (l.flatMap exL)) (hl : l.length ≤ 4294967296) :
    Calls Try.prog 65 #[.slice r1.a l.length r1.cap, .slice r2.a l.length r2.cap] w fun e w' => e = .returned (.bool true) ∧ Below w.heap.size w w' := by
  by_cases h0 : l.length = 0
  · rw [h0]
    exact eqExprS_zero _ _ _ _ w
  · rcases h1.nil_or with ⟨_, _, e⟩ | ⟨g1, e1⟩
    · exact absurd e h0
    · rcases h2.nil_or with ⟨_, _, e⟩ | ⟨g2, e2⟩
      · exact absurd e h0
      · rw [e1, e2]
        exact eqExprS_row b1 b2 g1 g2 r1 r2 l w h1 h2 e1 e2 hl
end Go.Proofs.Ytdbpknmoacjodaa
namespace Go.Proofs.Ytdbpknmoacjodaa
open Go.RowKit Go.PlainAid Go.Sort

def SameOut (P : Prop) (e : Ending) : Prop := ∃ b, e = .returned (.bool b) ∧ (b = true ↔ P)
theorem rowsomeE {α : Type} {l : List α} {j : Nat} (h : j < l.length) : ∃ x, l[j]? = some x := ⟨_, List.getElem?_eq_getElem h⟩
theorem take_more {α : Type} {l1 l2 : List α} {j : Nat} {x : α} (h : l1.take j = l2.take j) (h1 : l1[j]? = some x) (h2 : l2[j]? = some x) : l1.take (j + 1) = l2.take (j + 1) := by
  obtain ⟨a, rfl⟩ := List.getElem?_eq_some_iff.1 h1
  obtain ⟨b, hb⟩ := List.getElem?_eq_some_iff.1 h2
  rw [List.take_succ_eq_append_getElem a, List.take_succ_eq_append_getElem b, h, hb]
theorem take_all {α : Type} {l1 l2 : List α} (hl : l1.length = l2.length) (h : l1.take l1.length = l2.take l1.length) : l1 = l2 := by
  rw [List.take_length, hl, List.take_length] at h
  exact h
theorem bytes_eq {a b : ByteArray} (h : (a.toList == b.toList) = true) : a = b := (toList_eq_iff a b).1 h
def eqStr (x y : ByteArray) : Bool := x.toList == y.toList
theorem eqStr_iff {x y : ByteArray} : eqStr x y = true ↔ x = y := ⟨fun h => bytes_eq h, fun h => by rw [h]; exact beq_self_eq_true _⟩
def eqIm (x y : Im) : Bool := x.spec.toList == y.spec.toList && x.first.toList == y.first.toList && x.loc.toList == y.loc.toList
theorem eqIm_iff {x y : Im} : eqIm x y = true ↔ x = y := by
  constructor
  · intro h
    unfold eqIm at h
    simp only [Bool.and_eq_true] at h
    obtain ⟨⟨h0, h1⟩, h2⟩ := h
    cases x
    cases y
    simp only at h0 h1 h2
    congr 1 <;> first | (apply bytes_eq; assumption) | (apply eq_of_beq; assumption)
  · intro h
    rw [h]
    simp [eqIm]
def eqEp (x y : Ep) : Bool := x.kind == y.kind && x.name.toList == y.name.toList && x.loc.toList == y.loc.toList && x.spec.toList == y.spec.toList
theorem eqEp_iff {x y : Ep} : eqEp x y = true ↔ x = y := by
  constructor
  · intro h
    unfold eqEp at h
    simp only [Bool.and_eq_true] at h
    obtain ⟨⟨⟨h0, h1⟩, h2⟩, h3⟩ := h
    cases x
    cases y
    simp only at h0 h1 h2 h3
    congr 1 <;> first | (apply bytes_eq; assumption) | (apply eq_of_beq; assumption)
  · intro h
    rw [h]
    simp [eqEp]
def eqSm (x y : Sm) : Bool := x.kind == y.kind && x.name.toList == y.name.toList && x.expr == y.expr
theorem eqSm_iff {x y : Sm} : eqSm x y = true ↔ x = y := by
  constructor
  · intro h
    unfold eqSm at h
    simp only [Bool.and_eq_true] at h
    obtain ⟨⟨h0, h1⟩, h2⟩ := h
    cases x
    cases y
    simp only at h0 h1 h2
    congr 1 <;> first | (apply bytes_eq; assumption) | (apply eq_of_beq; assumption)
  · intro h
    rw [h]
    simp [eqSm]
def eqEx (x y : Ex) : Bool := x.kind == y.kind && x.num == y.num && x.name.toList == y.name.toList && x.field.toList == y.field.toList && x.l == y.l && x.r == y.r
theorem eqEx_iff {x y : Ex} : eqEx x y = true ↔ x = y := by
  constructor
  · intro h
    unfold eqEx at h
    simp only [Bool.and_eq_true] at h
    obtain ⟨⟨⟨⟨⟨h0, h1⟩, h2⟩, h3⟩, h4⟩, h5⟩ := h
    cases x
    cases y
    simp only at h0 h1 h2 h3 h4 h5
    congr 1 <;> first | (apply bytes_eq; assumption) | (apply eq_of_beq; assumption)
  · intro h
    rw [h]
    simp [eqEx]
end Go.Proofs.Ytdbpknmoacjodaa
namespace Go.Proofs.Ytdbpknmoacjodaa
open Go.RowKit Go.PlainAid Go.Sort

theorem map_flat (l : List ByteArray) : l.map Value.string = l.flatMap (fun x => [Value.string x]) := by
  induction l with
  | nil => rfl
  | cons x l ih => rw [List.map_cons, List.flatMap_cons, ih]; rfl
def TwoM (w0 : World) (b1 b2 : Nat) (S1 S2 : Sv) (m1 m2 : Md) (w : World) : Prop :=
  w.heap[w0.heap.size]? = some (.cells #[.slice S1.rq.a m1.rq.length S1.rq.cap, .slice S1.im.a m1.im.length S1.im.cap, .slice S1.ep.a m1.ep.length S1.ep.cap, .slice S1.st.a m1.st.length S1.st.cap, .slice S1.ex.a m1.ex.length S1.ex.cap] 37 (0, 0)) ∧ w.heap[w0.heap.size + 1]? = some (.cells #[.slice S2.rq.a m2.rq.length S2.rq.cap, .slice S2.im.a m2.im.length S2.im.cap, .slice S2.ep.a m2.ep.length S2.ep.cap, .slice S2.st.a m2.st.length S2.st.cap, .slice S2.ex.a m2.ex.length S2.ex.cap] 37 (0, 0)) ∧ OwnMd w b1 S1 m1 ∧ OwnMd w b2 S2 m2 ∧ Below w0.heap.size w0 w
theorem TwoM.later {w0 w w' : World} {b1 b2 : Nat} {S1 S2 : Sv} {m1 m2 : Md} (h : TwoM w0 b1 b2 S1 S2 m1 m2 w) (hb : Below w.heap.size w w') : TwoM w0 b1 b2 S1 S2 m1 m2 w' :=
  ⟨(hb.block _ (Array.getElem?_eq_some_iff.1 h.1).1).trans h.1, (hb.block _ (Array.getElem?_eq_some_iff.1 h.2.1).1).trans h.2.1, h.2.2.1.later hb, h.2.2.2.1.later hb, h.2.2.2.2.trans (hb.mono h.2.2.2.2.size)⟩
theorem two_start (w : World) (b1 b2 : Nat) (S1 S2 : Sv) (m1 m2 : Md) (h1 : OwnMd w b1 S1 m1) (h2 : OwnMd w b2 S2 m2) : TwoM w b1 b2 S1 S2 m1 m2 ((w.alloc (.cells #[.slice S1.rq.a m1.rq.length S1.rq.cap, .slice S1.im.a m1.im.length S1.im.cap, .slice S1.ep.a m1.ep.length S1.ep.cap, .slice S1.st.a m1.st.length S1.st.cap, .slice S1.ex.a m1.ex.length S1.ex.cap] 37)).alloc (.cells #[.slice S2.rq.a m2.rq.length S2.rq.cap, .slice S2.im.a m2.im.length S2.im.cap, .slice S2.ep.a m2.ep.length S2.ep.cap, .slice S2.st.a m2.st.length S2.st.cap, .slice S2.ex.a m2.ex.length S2.ex.cap] 37)) := by
  have a1 : Below w.heap.size w (w.alloc (.cells #[.slice S1.rq.a m1.rq.length S1.rq.cap, .slice S1.im.a m1.im.length S1.im.cap, .slice S1.ep.a m1.ep.length S1.ep.cap, .slice S1.st.a m1.st.length S1.st.cap, .slice S1.ex.a m1.ex.length S1.ex.cap] 37)) := (Below.refl _ _).alloc (Nat.le_refl _) _
  have a2 : Below (w.alloc (.cells #[.slice S1.rq.a m1.rq.length S1.rq.cap, .slice S1.im.a m1.im.length S1.im.cap, .slice S1.ep.a m1.ep.length S1.ep.cap, .slice S1.st.a m1.st.length S1.st.cap, .slice S1.ex.a m1.ex.length S1.ex.cap] 37)).heap.size (w.alloc (.cells #[.slice S1.rq.a m1.rq.length S1.rq.cap, .slice S1.im.a m1.im.length S1.im.cap, .slice S1.ep.a m1.ep.length S1.ep.cap, .slice S1.st.a m1.st.length S1.st.cap, .slice S1.ex.a m1.ex.length S1.ex.cap] 37)) ((w.alloc (.cells #[.slice S1.rq.a m1.rq.length S1.rq.cap, .slice S1.im.a m1.im.length S1.im.cap, .slice S1.ep.a m1.ep.length S1.ep.cap, .slice S1.st.a m1.st.length S1.st.cap, .slice S1.ex.a m1.ex.length S1.ex.cap] 37)).alloc (.cells #[.slice S2.rq.a m2.rq.length S2.rq.cap, .slice S2.im.a m2.im.length S2.im.cap, .slice S2.ep.a m2.ep.length S2.ep.cap, .slice S2.st.a m2.st.length S2.st.cap, .slice S2.ex.a m2.ex.length S2.ex.cap] 37)) := (Below.refl _ _).alloc (Nat.le_refl _) _
  refine ⟨(a2.block _ (by rw [alloc_size]; omega)).trans (heap_alloc_new w _), ?_, (h1.later a1).later a2, (h2.later a1).later a2, a1.trans (a2.mono (by rw [alloc_size]; omega))⟩
  have := heap_alloc_new (w.alloc (.cells #[.slice S1.rq.a m1.rq.length S1.rq.cap, .slice S1.im.a m1.im.length S1.im.cap, .slice S1.ep.a m1.ep.length S1.ep.cap, .slice S1.st.a m1.st.length S1.st.cap, .slice S1.ex.a m1.ex.length S1.ex.cap] 37)) (.cells #[.slice S2.rq.a m2.rq.length S2.rq.cap, .slice S2.im.a m2.im.length S2.im.cap, .slice S2.ep.a m2.ep.length S2.ep.cap, .slice S2.st.a m2.st.length S2.st.cap, .slice S2.ex.a m2.ex.length S2.ex.cap] 37)
  rw [alloc_size] at this
  exact this
def MdFew (m : Md) : Prop := m.rq.length ≤ 4294967296 ∧ m.im.length ≤ 4294967296 ∧ m.ep.length ≤ 4294967296 ∧ m.st.length ≤ 4294967296 ∧ m.ex.length ≤ 4294967296
theorem md_eq {a b : Md} (h1 : a.rq = b.rq) (h2 : a.im = b.im) (h3 : a.ep = b.ep) (h4 : a.st = b.st) (h5 : a.ex = b.ex) : a = b := by
  cases a
  cases b
  simp only at h1 h2 h3 h4 h5
  rw [h1, h2, h3, h4, h5]
end Go.Proofs.Ytdbpknmoacjodaa
namespace Go.Proofs.Ytdbpknmoacjodaa
open Go.RowKit Go.PlainAid Go.Sort

set_option maxRecDepth 100000 in
set_option maxHeartbeats 6400000 in
theorem eqMd_any (b1 b2 : Nat) (S1 S2 : Sv) (m : Md) (w : World) (h1 : OwnMd w b1 S1 m) (h2 : OwnMd w b2 S2 m) (hf : MdFew m) :
    Calls Try.prog 13 #[modD S1 m, modD S2 m] w fun e w' => e = .returned (.bool true) ∧ Below w.heap.size w w' := by
  have H1 := hidI h1
  have H2 := hidI h2
  have HF := hidI hf
  clear h1 h2 hf
  unfold modD
  go_enter Try.func13, Try.ntmps13
  go_upto_region 1 with fail
  refine world_anyI (R := TwoM w b1 b2 S1 S2 m m) (two_start w b1 b2 S1 S2 m m H1.out H2.out) ?_
  clear H1 H2
  intro w0 h
  have T0 := hidI h
  clear h
  obtain ⟨c0, c1, c2, c3, c4, cf⟩ := five_of T0.out.1
  obtain ⟨d0, d1, d2, d3, d4, df⟩ := five_of T0.out.2.1
  go_wp2_with fail
  refine (eqStringS_any b1 b2 S1.rq S2.rq m.rq w0 (by rw [← map_flat]; exact T0.out.2.2.1.rq) (by rw [← map_flat]; exact T0.out.2.2.2.1.rq) HF.out.1).mono ?_
  rintro e w1 ⟨rfl, hb⟩
  have T1 := hidI (T0.out.later hb)
  clear hb c0 c1 c2 c3 c4 cf d0 d1 d2 d3 d4 df
  obtain ⟨c0, c1, c2, c3, c4, cf⟩ := five_of T1.out.1
  obtain ⟨d0, d1, d2, d3, d4, df⟩ := five_of T1.out.2.1
  go_wp2_with fail
  refine (eqImpS_any b1 b2 S1.im S2.im m.im w1 T1.out.2.2.1.im T1.out.2.2.2.1.im HF.out.2.1).mono ?_
  rintro e w2 ⟨rfl, hb⟩
  have T2 := hidI (T1.out.later hb)
  clear hb c0 c1 c2 c3 c4 cf d0 d1 d2 d3 d4 df
  obtain ⟨c0, c1, c2, c3, c4, cf⟩ := five_of T2.out.1
  obtain ⟨d0, d1, d2, d3, d4, df⟩ := five_of T2.out.2.1
  go_wp2_with fail
  refine (eqExpS_any b1 b2 S1.ep S2.ep m.ep w2 T2.out.2.2.1.ep T2.out.2.2.2.1.ep HF.out.2.2.1).mono ?_
  rintro e w3 ⟨rfl, hb⟩
  have T3 := hidI (T2.out.later hb)
  clear hb c0 c1 c2 c3 c4 cf d0 d1 d2 d3 d4 df
  obtain ⟨c0, c1, c2, c3, c4, cf⟩ := five_of T3.out.1
  obtain ⟨d0, d1, d2, d3, d4, df⟩ := five_of T3.out.2.1
  go_wp2_with fail
  refine (eqStmtS_any b1 b2 S1.st S2.st m.st w3 T3.out.2.2.1.st T3.out.2.2.2.1.st HF.out.2.2.2.1).mono ?_
  rintro e w4 ⟨rfl, hb⟩
  have T4 := hidI (T3.out.later hb)
  clear hb c0 c1 c2 c3 c4 cf d0 d1 d2 d3 d4 df
  obtain ⟨c0, c1, c2, c3, c4, cf⟩ := five_of T4.out.1
  obtain ⟨d0, d1, d2, d3, d4, df⟩ := five_of T4.out.2.1
  go_wp2_with fail
  refine (eqExprS_any b1 b2 S1.ex S2.ex m.ex w4 T4.out.2.2.1.ex T4.out.2.2.2.1.ex HF.out.2.2.2.2).mono ?_
  rintro e w5 ⟨rfl, hb⟩
  have T5 := hidI (T4.out.later hb)
  clear hb c0 c1 c2 c3 c4 cf d0 d1 d2 d3 d4 df
  obtain ⟨c0, c1, c2, c3, c4, cf⟩ := five_of T5.out.1
  obtain ⟨d0, d1, d2, d3, d4, df⟩ := five_of T5.out.2.1
  go_wp2
  go_ret
  exact ⟨rfl, T5.out.2.2.2.2⟩
end Go.Proofs.Ytdbpknmoacjodaa
namespace Go.Proofs.Ytdbpknmoacjodaa
open Go.RowKit Go.PlainAid

def inNB (v : Int) : Bool := inB v (-1000000) 1000000
def kAt (l : List (Int × Bool)) (i : Int) : Int × Bool := l.getD i.toNat (0, false)
def opV (k a b : Int) : Int := if k == 8 then a * b else if k == 7 then a - b else a + b
def bothB (l : List (Int × Bool)) (x : Ex) : Bool := (kAt l x.l).2 && ((kAt l x.r).2 && (inNB (kAt l x.l).1 && inNB (kAt l x.r).1))
def kOne (l : List (Int × Bool)) (x : Ex) : Int × Bool :=
  if x.kind == 1 then (x.num, true)
  else if twoK x.kind && (bothB l x && inNB (opV x.kind (kAt l x.l).1 (kAt l x.r).1)) then (opV x.kind (kAt l x.l).1 (kAt l x.r).1, true)
  else (0, false)
def kTo (ex : List Ex) : Nat → List (Int × Bool)
  | 0 => List.replicate ex.length (0, false)
  | j + 1 => (kTo ex j).set j (kOne (kTo ex j) (ex.getD j exNo))
theorem kTo_len (ex : List Ex) (j : Nat) : (kTo ex j).length = ex.length := by
  induction j with
  | zero => exact List.length_replicate
  | succ j ih => rw [kTo, List.length_set]; exact ih
theorem kTo_new (ex : List Ex) (j : Nat) : ∀ k, j ≤ k → (kTo ex j).getD k (0, false) = (0, false) := by
  induction j with
  | zero =>
    intro k _
    rw [kTo, List.getD, List.getElem?_replicate]
    split <;> rfl
  | succ j ih =>
    intro k hk
    rw [kTo, List.getD, List.getElem?_set_ne (by omega)]
    exact ih k (by omega)
theorem kTo_next {ex : List Ex} {j : Nat} {x : Ex} (h : ex[j]? = some x) : kTo ex (j + 1) = (kTo ex j).set j (kOne (kTo ex j) x) := by
  rw [kTo, List.getD, h]
  rfl
theorem kTo_not {ex : List Ex} {j : Nat} {x : Ex} (h : ex[j]? = some x) (hn : kOne (kTo ex j) x = (0, false)) : kTo ex (j + 1) = kTo ex j := by
  have hj := (List.getElem?_eq_some_iff.1 h).1
  have hk : j < (kTo ex j).length := by rw [kTo_len]; exact hj
  rw [kTo_next h, hn]
  have := kTo_new ex j j (Nat.le_refl _)
  rw [List.getD, List.getElem?_eq_getElem hk, Option.getD_some] at this
  rw [← this]
  exact List.set_getElem_self hk
def kAll (ex : List Ex) : List (Int × Bool) := kTo ex ex.length
theorem one_num {l : List (Int × Bool)} {x : Ex} (h : (x.kind == 1) = true) : kOne l x = (x.num, true) := if_pos h
theorem two_not {x : Ex} (h : (x.kind == 1) = true) : twoK x.kind = false := by
  rw [beq_iff_eq] at h
  rw [twoK, h]
  rfl
theorem one_other {l : List (Int × Bool)} {x : Ex} (h : (x.kind == 1) = false) (h2 : twoK x.kind = false) : kOne l x = (0, false) := by
  rw [kOne, if_neg (by rw [h]; decide), h2, Bool.false_and, if_neg (by decide)]
theorem one_far {l : List (Int × Bool)} {x : Ex} (h : (x.kind == 1) = false) (h2 : bothB l x = false) : kOne l x = (0, false) := by
  rw [kOne, if_neg (by rw [h]; decide), h2, Bool.false_and, Bool.and_false, if_neg (by decide)]
theorem one_out {l : List (Int × Bool)} {x : Ex} (h : (x.kind == 1) = false) (h2 : inNB (opV x.kind (kAt l x.l).1 (kAt l x.r).1) = false) : kOne l x = (0, false) := by
  rw [kOne, if_neg (by rw [h]; decide), h2, Bool.and_false, Bool.and_false, if_neg (by decide)]
theorem one_yes {l : List (Int × Bool)} {x : Ex} (h0 : twoK x.kind = true) (h1 : bothB l x = true) (h2 : inNB (opV x.kind (kAt l x.l).1 (kAt l x.r).1) = true) : kOne l x = (opV x.kind (kAt l x.l).1 (kAt l x.r).1, true) := by
  have h : (x.kind == 1) = false := by
    cases hk : x.kind == 1 with
    | false => rfl
    | true => rw [two_not hk] at h0; cases h0
  rw [kOne, if_neg (by rw [h]; decide), h0, h1, h2, Bool.and_self, Bool.and_self, if_pos rfl]
theorem mul_near {a b : Int} (ha : -1000000 ≤ a ∧ a ≤ 1000000) (hb : -1000000 ≤ b ∧ b ≤ 1000000) : -1000000000000 ≤ a * b ∧ a * b ≤ 1000000000000 := by
  have h : (a * b).natAbs ≤ 1000000 * 1000000 := by rw [Int.natAbs_mul]; exact Nat.mul_le_mul (by omega) (by omega)
  generalize a * b = c at h ⊢
  omega
theorem near_of {v : Int} (h : inB v (-1000000) 1000000 = true) : -1000000 ≤ v ∧ v ≤ 1000000 := by
  rw [inB, Bool.and_eq_true, decide_eq_true_eq, decide_eq_true_eq] at h
  exact h
def knownP (m : Md) (i : Int) : Prop := Tree m ∧ 0 ≤ i ∧ i < (m.ex.length : Int) ∧ (kAt (kAll m.ex) i).2 = true
def KnownIs (m : Md) (i : Int) (v : Int) (b : Bool) : Prop := (knownP m i ∧ v = (kAt (kAll m.ex) i).1 ∧ b = true) ∨ (¬ knownP m i ∧ v = 0 ∧ b = false)
theorem KnownIs.one {m : Md} {i v v' : Int} {b b' : Bool} (h : KnownIs m i v b) (h' : KnownIs m i v' b') : v' = v ∧ b' = b := by
  rcases h with ⟨a, rfl, rfl⟩ | ⟨a, rfl, rfl⟩ <;> rcases h' with ⟨c, rfl, rfl⟩ | ⟨c, rfl, rfl⟩
  · exact ⟨rfl, rfl⟩
  · exact absurd a c
  · exact absurd c a
  · exact ⟨rfl, rfl⟩
end Go.Proofs.Ytdbpknmoacjodaa
namespace Go.Proofs.Ytdbpknmoacjodaa
open Go.RowKit Go.PlainAid Go.Sort

theorem usesE_app (a b : List Ex) (k : Int) : usesE (a ++ b) k = usesE a k + usesE b k := by simp [usesE]
theorem usesS_app (a b : List Sm) (k : Int) : usesS (a ++ b) k = usesS a k + usesS b k := by simp [usesS]
theorem usesE_take {ex : List Ex} {i : Nat} (hi : i < ex.length) (k : Int) : usesE (ex.take (i + 1)) k = usesE (ex.take i) k + u1 ex[i] k := by
  rw [List.take_succ_eq_append_getElem hi, usesE_app]
  simp [usesE, u1]
theorem usesS_take {st : List Sm} {i : Nat} (hi : i < st.length) (k : Int) : usesS (st.take (i + 1)) k = usesS (st.take i) k + if st[i].expr == k then 1 else 0 := by
  rw [List.take_succ_eq_append_getElem hi, usesS_app]
  simp [usesS]
theorem usesE_le (ex : List Ex) (k : Int) : usesE ex k ≤ 2 * ex.length := by
  induction ex with
  | nil => simp [usesE]
  | cons x l ih =>
    rw [show x :: l = [x] ++ l from rfl, usesE_app]
    have : usesE [x] k ≤ 2 := by
      simp only [usesE, List.map_cons, List.map_nil, List.sum_cons, List.sum_nil]
      split
      · split <;> split <;> omega
      · omega
    simp only [List.length_append, List.length_cons, List.length_nil]
    omega
theorem usesS_le (st : List Sm) (k : Int) : usesS st k ≤ st.length := by
  induction st with
  | nil => simp [usesS]
  | cons x l ih =>
    rw [show x :: l = [x] ++ l from rfl, usesS_app]
    have : usesS [x] k ≤ 1 := by
      simp only [usesS, List.map_cons, List.map_nil, List.sum_cons, List.sum_nil]
      split <;> omega
    simp only [List.length_append, List.length_cons, List.length_nil]
    omega
def rowN (n : Nat) (f : Nat → Nat) : List Value := (List.range n).map fun k => .int .i64 (f k : Int)
theorem rowN_len (n : Nat) (f : Nat → Nat) : (rowN n f).length = n := by simp [rowN]
theorem rowN_at {n : Nat} (f : Nat → Nat) {k : Nat} (hk : k < n) : (rowN n f)[k]? = some (.int .i64 (f k : Int)) := by
  unfold rowN
  rw [List.getElem?_map, List.getElem?_range hk]
  rfl
theorem rowN_set {n l : Nat} (f g : Nat → Nat) (v : Nat) (hv : g l = v) (h : ∀ k, k ≠ l → g k = f k) : (rowN n f).set l (.int .i64 (v : Int)) = rowN n g := by
  apply List.ext_getElem?
  intro k
  by_cases hk : k < n
  · by_cases e : k = l
    · subst e
      rw [List.getElem?_set_self (by rw [rowN_len]; exact hk), rowN_at g hk, hv]
    · rw [List.getElem?_set_ne (fun x => e x.symm), rowN_at f hk, rowN_at g hk, h k e]
  · rw [List.getElem?_eq_none (by rw [List.length_set, rowN_len]; omega), List.getElem?_eq_none (by rw [rowN_len]; omega)]
theorem rowN_congr {n : Nat} {f g : Nat → Nat} (h : ∀ k, k < n → f k = g k) : rowN n f = rowN n g := by
  unfold rowN
  refine List.map_congr_left fun k hk => ?_
  rw [h k (List.mem_range.1 hk)]
def plus (f : Nat → Nat) (l : Nat) : Nat → Nat := fun k => f k + if k = l then 1 else 0
theorem plus_at (f : Nat → Nat) (l : Nat) : plus f l l = f l + 1 := by simp [plus]
theorem plus_ne (f : Nat → Nat) {l k : Nat} (h : k ≠ l) : plus f l k = f k := by simp [plus, h]
theorem two_uses {ex : List Ex} {i : Nat} (hi : i < ex.length) (ht : twoK ex[i].kind = true) (h0 : 0 ≤ ex[i].l) (h1 : 0 ≤ ex[i].r) (k : Nat) : plus (plus (fun k => usesE (ex.take i) (k : Int)) ex[i].l.toNat) ex[i].r.toNat k = usesE (ex.take (i + 1)) (k : Int) := by
  rw [usesE_take hi, u1, if_pos ht]
  unfold plus
  have e1 : (ex[i].l == (k : Int)) = decide (k = ex[i].l.toNat) := by
    rw [Bool.eq_iff_iff, beq_iff_eq, decide_eq_true_iff]; omega
  have e2 : (ex[i].r == (k : Int)) = decide (k = ex[i].r.toNat) := by
    rw [Bool.eq_iff_iff, beq_iff_eq, decide_eq_true_iff]; omega
  rw [e1, e2]
  simp only [decide_eq_true_eq]
  omega
theorem not_uses {ex : List Ex} {i : Nat} (hi : i < ex.length) (ht : twoK ex[i].kind = false) (k : Nat) : usesE (ex.take i) (k : Int) = usesE (ex.take (i + 1)) (k : Int) := by
  rw [usesE_take hi, u1, if_neg (by rw [ht]; decide), Nat.add_zero]
theorem stm_uses {st : List Sm} {ex : List Ex} {i : Nat} (hi : i < st.length) (h0 : 0 ≤ st[i].expr) (k : Nat) : plus (fun k => usesE ex (k : Int) + usesS (st.take i) (k : Int)) st[i].expr.toNat k = usesE ex (k : Int) + usesS (st.take (i + 1)) (k : Int) := by
  rw [usesS_take hi]
  unfold plus
  have e1 : (st[i].expr == (k : Int)) = decide (k = st[i].expr.toNat) := by
    rw [Bool.eq_iff_iff, beq_iff_eq, decide_eq_true_iff]; omega
  rw [e1]
  simp only [decide_eq_true_eq]
  omega
def AheadTo (ex : List Ex) (n : Nat) : Prop := ∀ (i : Nat) (x : Ex), i < n → ex[i]? = some x → twoK x.kind = true → 0 ≤ x.l ∧ x.l < (i : Int) ∧ 0 ≤ x.r ∧ x.r < (i : Int)
theorem AheadTo.all {ex : List Ex} (h : AheadTo ex ex.length) : Ahead ex := fun i x hx => h i x (List.getElem?_eq_some_iff.1 hx).1 hx
theorem AheadTo.next {ex : List Ex} {i : Nat} (h : AheadTo ex i) (hi : i < ex.length) (hx : twoK ex[i].kind = true → 0 ≤ ex[i].l ∧ ex[i].l < (i : Int) ∧ 0 ≤ ex[i].r ∧ ex[i].r < (i : Int)) : AheadTo ex (i + 1) := by
  intro j x hj he ht
  by_cases e : j = i
  · subst e
    obtain ⟨_, rfl⟩ := List.getElem?_eq_some_iff.1 he
    exact hx ht
  · exact h j x (by omega) he ht
theorem AheadTo.not {ex : List Ex} {i : Nat} (hi : i < ex.length) (ht : twoK ex[i].kind = true) (hx : ¬ (0 ≤ ex[i].l ∧ ex[i].l < (i : Int) ∧ 0 ≤ ex[i].r ∧ ex[i].r < (i : Int))) : ¬ Ahead ex := fun h => hx (h i _ (List.getElem?_eq_getElem hi) ht)
end Go.Proofs.Ytdbpknmoacjodaa
namespace Go.Proofs.Ytdbpknmoacjodaa
open Go.RowKit Go.PlainAid

theorem u64_back (m : Int) (h0 : 0 < m) (h1 : m ≤ 9223372036854775808) : IntKind.u64.wrap (-IntKind.u64.wrap (-m)) = m := by
  rw [IntKind.wrap_u64, IntKind.wrap_u64]; omega

theorem neg_tmod (q : Int) (h : 0 ≤ q) : (-q).tmod 10 = -(q % 10) := by rw [Int.neg_tmod, Int.tmod_eq_emod_of_nonneg h]
theorem neg_tdiv (q : Int) (h : 0 ≤ q) : (-q).tdiv 10 = -(q / 10) := by rw [Int.neg_tdiv, Int.tdiv_eq_ediv_of_nonneg h]

set_option maxRecDepth 100000 in
set_option maxHeartbeats 800000 in
theorem dec_spec_pos (n : Int) (w : World) (h0 : 0 < n) (h1 : n ≤ 9223372036854775807) :
    Calls Try.prog 148 #[.int .i64 n] w fun e w' => e = .returned (.string (strOfNums (dgk n (dcn n)))) ∧ Below w.heap.size w w' := by
  have hd := dcn_facts n (by omega) (by omega)
  have hd1 : dcn n ≤ 20 := hd.2.1
  have hd0 : 1 ≤ dcn n := hd.1
  have hne : (n == 0) = false := by simp; omega
  have hlt0 : ¬ n < 0 := by omega
  clear hd
  go_enter Try.func148, Try.ntmps148
  go_wp2
  go_loopw [0, 3, 5] (fun a o _ wr => ∃ k : Nat, k ≤ dcn n ∧ a = .int .i64 (n / 10 ^ k) ∧ o = .string (strOfNums (dgk n k)) ∧ Below w.heap.size w wr) (fun a _ _ _ => (intOf a).toNat)
  case atStart => exact ⟨0, by omega, by simp, rfl, Below.refl _ _⟩
  case round =>
    obtain ⟨k, hk, rfl, rfl, hbel⟩ := hrel
    have hb := tenth_bd n k (by omega)
    have hi := some_iff n (by omega) (by omega) k
    have hsz : (strOfNums (dgk n k)).size ≤ 20 := by rw [strOfNums_size, dgk_length]; omega
    by_cases hz : n / 10 ^ k = 0
    · have hk2 : ¬ (k < dcn n) := fun h => hi.2 h hz
      have hz' : (n / 10 ^ k != 0) = false := by simpa using hz
      clear hi hz
      go_wp2
      go_ret
      exact ⟨ret_str (by rw [show dcn n = k from by omega]), hbel⟩
    · have hk2 := hi.1 hz
      have hz' : (n / 10 ^ k != 0) = true := by simpa using hz
      have hz2 : 0 < n / 10 ^ k := by omega
      clear hi hz
      have hst := fun (w : World) (x : Int) => run_string_one (P := Try.prog) (src := 59) (dst := 9) Try.underlying59 Try.underlying5 Try.underlying9 w x
      have hone := fun x => strOfNums_size [x]
      go_wp2
      go_roundw
      case rel => exact ⟨k + 1, by omega, by rw [tenth], by rw [strOfNums_cons]; rfl, hbel.alloc hbel.size _⟩
      case measure => simp [intOf]; omega

set_option maxRecDepth 100000 in
set_option maxHeartbeats 800000 in
theorem dec_spec_neg (m : Int) (w : World) (h0 : 0 < m) (h1 : m ≤ 9223372036854775808) :
    Calls Try.prog 148 #[.int .i64 (-m)] w fun e w' => e = .returned (.string (strOfNums (45 :: dgk m (dcn m)))) ∧ Below w.heap.size w w' := by
  have hd := dcn_facts m (by omega) (by omega)
  have hd1 : dcn m ≤ 20 := hd.2.1
  have hd0 : 1 ≤ dcn m := hd.1
  have hne : (-m == 0) = false := by simp; omega
  clear hd
  go_enter Try.func148, Try.ntmps148
  go_wp2
  go_loopw [0, 3, 5] (fun a o _ wr => ∃ k : Nat, k ≤ dcn m ∧ a = .int .i64 (-(m / 10 ^ k)) ∧ o = .string (strOfNums (dgk m k)) ∧ Below w.heap.size w wr) (fun a _ _ _ => (-(intOf a)).toNat)
  case atStart => exact ⟨0, by omega, by simp, rfl, Below.refl _ _⟩
  case round =>
    obtain ⟨k, hk, rfl, rfl, hbel⟩ := hrel
    have hb := tenth_bd m k (by omega)
    have hi := some_iff m (by omega) (by omega) k
    have hsz : (strOfNums (dgk m k)).size ≤ 20 := by rw [strOfNums_size, dgk_length]; omega
    by_cases hz : m / 10 ^ k = 0
    · have hk2 : ¬ (k < dcn m) := fun h => hi.2 h hz
      have hz' : (-(m / 10 ^ k) != 0) = false := by simpa using hz
      have hmin : (strOfNums [45]).size = 1 := strOfNums_size [45]
      clear hi hz
      go_wp2
      go_ret
      exact ⟨ret_str (by rw [show dcn m = k from by omega]; exact strOfNums_cons 45 _), hbel⟩
    · have hk2 := hi.1 hz
      have hz' : (-(m / 10 ^ k) != 0) = true := by simpa using hz
      have hz2 : 0 < m / 10 ^ k := by omega
      clear hi hz
      have e1 := neg_tmod (m / 10 ^ k) hb.1
      have e2 := neg_tdiv (m / 10 ^ k) hb.1
      have hst := fun (w : World) (x : Int) => run_string_one (P := Try.prog) (src := 59) (dst := 9) Try.underlying59 Try.underlying5 Try.underlying9 w x
      have hone := fun x => strOfNums_size [x]
      by_cases hd : 0 < m / 10 ^ k % 10
      · go_wp2
        go_roundw
        case rel => exact ⟨k + 1, by omega, by rw [tenth], by rw [strOfNums_cons]; rfl, hbel.alloc hbel.size _⟩
        case measure => simp [intOf]; omega
      · go_wp2
        go_roundw
        case rel => exact ⟨k + 1, by omega, by rw [tenth], by rw [strOfNums_cons, show 48 + -(m / 10 ^ k % 10) = 48 + m / 10 ^ k % 10 from by omega]; rfl, hbel.alloc hbel.size _⟩
        case measure => simp [intOf]; omega

theorem dec_spec (n : Int) (w : World) (hb : -9223372036854775808 ≤ n ∧ n ≤ 9223372036854775807) :
    Calls Try.prog 148 #[.int .i64 n] w fun e w' => e = .returned (.string (strOfNums (decL n))) ∧ Below w.heap.size w w' := by
  by_cases h : 0 < n
  · rw [decL_pos (by omega)]
    exact dec_spec_pos n w h hb.2
  · by_cases hz : n = 0
    · subst hz
      have HV : Hid (decL 0 = [48]) := by show decL 0 = [48]; decide
      go_enter Try.func148, Try.ntmps148
      go_wp2
      go_ret
      exact ⟨ret_str (by rw [HV.out]; rfl), Below.refl _ _⟩
    · obtain ⟨m, rfl⟩ : ∃ m, n = -m := ⟨-n, by omega⟩
      rw [decL_neg (by omega), Int.neg_neg]
      exact dec_spec_neg m w (by omega) (by omega)
end Go.Proofs.Ytdbpknmoacjodaa
