/-
  What the laws of chapter 16 over lists of names hold on their way. No program is spoken of but for the numbers of its types.
  What laws.FnExactTrim holds on its way. No program is spoken of but for the numbers of its types.
  What the laws' copiers answer: the walks.
  What the laws' toMod answers: the walk.
  What the laws' comparers of lists answer where both show the same: the walks.
  What slices.Equal answers of rows of the call's own, the model's != handed in: the walks.
  Two programs in memory side by side. No program is spoken of but for the numbers of its types.
  What the laws' eqMod answers of a program made twice: the walk.
  What spec.Uses and spec.Unused answer: the walks.
-/
import Derived.Deep.DeepCutAuto
import Derived.Deep.RegionWith
import Derived.Test.YtaakfnclelcopaaCTrimUseMemToOutRow
namespace Go.Proofs.Ytaakfnclelcopaa
open Go.RowKit Go.PlainAid Go.Sort

theorem rowAt_of {α : Type} {f : α → List Value} {m : Nat} (hf : ∀ x, (f x).length = m) {w : World} {b0 : Nat} {e : TypeId} {r : Rw} {l : List α} (h : OwnR w b0 e m r l.length (l.flatMap f)) : RowAt w r.a f m l := by
  cases hl : l with
  | nil => exact .inl rfl
  | cons y t =>
    rw [← hl]
    obtain ⟨g, hg, _⟩ := OwnR.elem hf h (j := 0) (x := y) (by rw [hl]; rfl)
    refine .inr ⟨g, 0, hg, (h.typed (by rw [Rw.blk, hg]; rfl)).2.1, fun j x hj i v hv => ?_⟩
    obtain ⟨g', hg', hc⟩ := OwnR.elem hf h hj
    rw [hg] at hg'
    cases hg'
    have hi := (List.getElem?_eq_some_iff.1 hv).1
    rw [hf] at hi
    have := hc i hi
    rw [Nat.zero_add, this]
    exact hv
theorem MdR.of {w : World} {b : Nat} {S : Sv} {m : Md} (h : OwnMd w b S m) : MdR w S m := ⟨rowAt_of (f := imL) (fun _ => rfl) h.im, rowAt_of (f := epL) (fun _ => rfl) h.ep, rowAt_of (f := smL) (fun _ => rfl) h.st, rowAt_of (f := exL) (fun _ => rfl) h.ex⟩
theorem cost_lens {m : Md} (h : costM m ≤ 1048576) : m.rq.length + m.im.length + m.ep.length + m.st.length + m.ex.length ≤ 1048576 := by
  have e : costM m = (m.rq.length + rowCost costStr m.rq) + (m.im.length + rowCost costIm m.im) + (m.ep.length + rowCost costEp m.ep) + (m.st.length + rowCost costSm m.st) + (m.ex.length + rowCost costEx m.ex) := rfl
  omega
theorem km_one {m : Md} (h : costM m ≤ 1048576) : KM m 1 := by
  have := cost_lens h
  exact ⟨by omega, by omega, by omega, by omega, by omega, by omega, by simp only [kM]; omega⟩
theorem OutS.keepM {w w' : World} {base n cap : Nat} {a : Option Addr} {xs : List ByteArray} (h : OutS w base a n cap xs) (hk : ∀ j, base ≤ j → j < w.heap.size → w'.heap[j]? = w.heap[j]?) : OutS w' base a n cap xs :=
  ⟨h.1, fun k => by obtain ⟨g, e, h1⟩ := h.2 k; exact ⟨g, e, ownS_keep h1 (hk g (ownS_blk h1).1 (ownS_blk h1).2)⟩⟩
structure U1 (w : World) (A : MA) (m : Md) (gx g n : Nat) (X : Nat → ByteArray) (W : World) : Prop where
  x : W.heap[gx]? = some (boxA A m)
  bel : Below w.heap.size w W
  sh : TextsAt W (some ⟨g, 0, none⟩) g n X
theorem U1.later {w W W' : World} {A : MA} {m : Md} {gx g n : Nat} {X : Nat → ByteArray} (h : U1 w A m gx g n X W) (hb : Below W.heap.size W W') : U1 w A m gx g n X W' := ⟨blk_later h.x hb, h.bel.trans (hb.mono h.bel.size), h.sh.later hb⟩
theorem texts_under {w w' : World} {a : Option Addr} {g n b : Nat} {X : Nat → ByteArray} (h : TextsAt w a g n X) (hb : Below b w w') (hg : g < b) : TextsAt w' a g n X :=
  ⟨h.addr, fun k => Nat.lt_of_lt_of_le (h.lt k) hb.size, fun j hj => by rw [hb.cell hg]; exact h.cell j hj⟩
theorem U1.under {w W W' : World} {A : MA} {m : Md} {gx g n b : Nat} {X : Nat → ByteArray} (h : U1 w A m gx g n X W) (hb : Below b W W') (hw : w.heap.size ≤ b) (hx : gx < b) (hg : g < b) : U1 w A m gx g n X W' := ⟨(hb.block _ hx).trans h.x, h.bel.trans (hb.mono hw), texts_under h.sh hb hg⟩
structure U2 (b : Nat) (S : Sv) (m : Md) (gy c : Nat) (a : Option Addr) (n cap : Nat) (xs : List ByteArray) (W : World) : Prop where
  y : W.heap[gy]? = some (boxD S m)
  own : OwnMd W b S m
  out : OutS W c a n cap xs
theorem U2.later {b : Nat} {S : Sv} {m : Md} {gy c n cap : Nat} {a : Option Addr} {xs : List ByteArray} {W W' : World} (h : U2 b S m gy c a n cap xs W) (hb : Below W.heap.size W W') : U2 b S m gy c a n cap xs W' := ⟨blk_later h.y hb, h.own.later hb, h.out.later hb⟩
def UseOutI (w : World) (l : List ByteArray) (e : Ending) (w' : World) : Prop := ∃ a n cap, e = .returned (.slice a n cap) ∧ OutS w' w.heap.size a n cap l ∧ Below w.heap.size w w'
theorem UseOut.i {w w' : World} {l : List ByteArray} {e : Ending} (h : UseOut w l e w') : UseOutI w l e w' := by
  obtain ⟨g, n, cap, h1, h2, h3⟩ := h
  exact ⟨_, n, cap, h1, OutS.own h2, h3⟩
theorem lens_of {m : Md} (h : costM m ≤ 1048576) : m.rq.length ≤ 1048576 ∧ m.im.length ≤ 1048576 ∧ m.ep.length ≤ 1048576 ∧ m.st.length ≤ 1048576 ∧ m.ex.length ≤ 1048576 := by
  have := cost_lens h
  omega
end Go.Proofs.Ytaakfnclelcopaa
namespace Go.Proofs.Ytaakfnclelcopaa
open Go.RowKit Go.PlainAid Go.Sort

structure T1 (w : World) (A : MA) (m : Md) (gx gw b : Nat) (S : Sv) (N : Md) (W : World) : Prop where
  x : W.heap[gx]? = some (boxA A m)
  bel : Below w.heap.size w W
  wb : W.heap[gw]? = some (boxD S N)
  o : OwnMd W b S N
structure T3 (b5 gy : Nat) (S3 : Sv) (m : Md) (b7 gg : Nat) (S4 : Sv) (N : Md) (W : World) : Prop where
  l5 : b5 ≤ W.heap.size
  l7 : b7 ≤ W.heap.size
  y : W.heap[gy]? = some (boxD S3 m)
  o3 : OwnMd W b5 S3 m
  l3 : ∀ k, MdHas S3 k → k < b7
  gb : W.heap[gg]? = some (boxD S4 N)
  o4 : OwnMd W b7 S4 N
section
variable {w W W' w5 : World} {gx gw b b5 b7 gy gg : Nat} {A : MA} {m N : Md} {S S3 S4 : Sv}
theorem T1.later (h : T1 w A m gx gw b S N W) (hb : Below W.heap.size W W') : T1 w A m gx gw b S N W' := ⟨blk_later h.x hb, h.bel.trans (hb.mono h.bel.size), blk_later h.wb hb, h.o.later hb⟩
theorem T1.under (h : T1 w A m gx gw b S N W) {c : Nat} (hc : w5.heap.size ≤ c) (h5 : T1 w A m gx gw b S N w5) (hb : Below c W W') : T1 w A m gx gw b S N W' :=
  ⟨(hb.block gx (Nat.lt_of_lt_of_le (Array.getElem?_eq_some_iff.1 h5.x).1 hc)).trans h.x, h.bel.trans (hb.mono (Nat.le_trans h5.bel.size hc)), (hb.block gw (Nat.lt_of_lt_of_le (Array.getElem?_eq_some_iff.1 h5.wb).1 hc)).trans h.wb, h.o.keepB fun k _ _ hk => hb.block k (Nat.lt_of_lt_of_le (h5.o.in hk).2.1 hc)⟩
theorem T3.later (h : T3 b5 gy S3 m b7 gg S4 N W) (hb : Below W.heap.size W W') : T3 b5 gy S3 m b7 gg S4 N W' := ⟨Nat.le_trans h.l5 hb.size, Nat.le_trans h.l7 hb.size, blk_later h.y hb, h.o3.later hb, h.l3, blk_later h.gb hb, h.o4.later hb⟩
theorem T3.md (h : T3 b5 gy S3 m b7 gg S4 N W) (hk : ∀ j, j < W.heap.size → ¬ MdHas S3 j → W'.heap[j]? = W.heap[j]?) : W'.heap[gg]? = some (boxD S4 N) ∧ OwnMd W' b7 S4 N :=
  ⟨(hk gg (Array.getElem?_eq_some_iff.1 h.gb).1 (h.o3.not h.gb (by decide))).trans h.gb, h.o4.keepB fun k hb hl hm => hk k hl fun h3 => by have := h.l3 k h3; omega⟩
end
theorem trim_le (m : Md) : (trimMd m).im.length ≤ m.im.length := List.length_filter_le _ _
theorem lens_trim {m : Md} (h : m.rq.length ≤ 1048576 ∧ m.im.length ≤ 1048576 ∧ m.ep.length ≤ 1048576 ∧ m.st.length ≤ 1048576 ∧ m.ex.length ≤ 1048576) : (trimMd m).rq.length ≤ 1048576 ∧ (trimMd m).im.length ≤ 1048576 ∧ (trimMd m).ep.length ≤ 1048576 ∧ (trimMd m).st.length ≤ 1048576 ∧ (trimMd m).ex.length ≤ 1048576 :=
  ⟨h.1, Nat.le_trans (trim_le m) h.2.1, h.2.2.1, h.2.2.2.1, h.2.2.2.2⟩
theorem km_trim {m : Md} (h : costM m ≤ 1048576) : KM (trimMd m) 1 := by
  have := cost_lens h
  have h1 := trim_le m
  have e1 : (trimMd m).rq = m.rq := rfl
  have e2 : (trimMd m).ep = m.ep := rfl
  have e3 : (trimMd m).st = m.st := rfl
  have e4 : (trimMd m).ex = m.ex := rfl
  refine ⟨by omega, by rw [e1]; omega, by omega, by rw [e2]; omega, by rw [e3]; omega, by rw [e4]; omega, ?_⟩
  simp only [kM]
  rw [e1, e2, e3, e4]
  omega
theorem km_held {m : Md} {k : Nat} (h : KM m k) : m.rq.length ≤ 1048576 ∧ m.im.length ≤ 1048576 ∧ m.ep.length ≤ 1048576 ∧ m.st.length ≤ 1048576 ∧ m.ex.length ≤ 1048576 ∧ kM m k 5 ≤ 7900000 := ⟨h.rq, h.im, h.ep, h.st, h.ex, h.all⟩
end Go.Proofs.Ytaakfnclelcopaa
namespace Go.Proofs.Ytaakfnclelcopaa
open Go.RowKit Go.PlainAid Go.Sort

theorem Try.infoTStr : (Try.prog.info? 9).map (fun i => (i.zero, i.size, i.bytes)) = some (some (.string { data := #[] }), 1, 16) := by kernel_rfl
set_option maxRecDepth 100000 in
set_option maxHeartbeats 3200000 in
theorem toStrS_any (a : Option Addr) (cap : Nat) (l : List ByteArray) (w : World) (hr : RowAt w a (fun x => [Value.string x]) 1 l) (hl : l.length ≤ 1048576) :
    Calls Try.prog 30 #[.slice a l.length cap] w fun e w' => ToOut w 9 1 l.length (l.flatMap (fun x => [Value.string x])) e w' := by
  have HR := hidI hr
  clear hr
  obtain ⟨i0, hi, hz0, hz1, hz2⟩ := info_parts Try.infoTStr
  go_enter Try.func30, Try.ntmps30
  go_wp2_with (first | (at_make; refine wpList_make_full w rfl _ _ 22 rfl w.heap.size 9 i0 _ 1 Try.underlying22 hi hz0 hz1 .i64 .i64 _ _ l.length (by rfl) (by rfl) rfl rfl (by rw [hz2]; omega) (by unfold maxLen; omega) (Nat.le_refl _) ?_))
  intro w1 hown1 hgr1
  have HB1 := hidI ((Below.refl _ _).grown hgr1 (Nat.le_refl _) (fun k h => by cases h) : Below w.heap.size w w1)
  have HO1 : Hid (OwnC w1 w.heap.size 9 1 w.heap.size l.length (l.flatMap (fun x => [Value.string x])) 0) := ⟨_, hown1, fun j hj => absurd hj (Nat.not_lt_zero j)⟩
  clear hown1 hgr1
  obtain ⟨g, hg⟩ : ∃ g, g = w.heap.size := ⟨_, rfl⟩
  have HGG := hidI hg
  rw [← hg]
  rw [← hg] at HO1
  have HOB : Hid (OwnC w1 w.heap.size 9 1 g l.length (l.flatMap (fun x => [Value.string x])) 0) := by rw [← hg]; exact HO1.out
  clear hg HO1
  go_wp2
  go_loopg [4] l.length (fun k i wr => ∃ j : Nat, i = .int .i64 j ∧ j + k = l.length ∧ OwnC wr w.heap.size 9 1 g l.length (l.flatMap (fun x => [Value.string x])) (j * 1) ∧ Below w.heap.size w wr)
  case atStart => exact ⟨0, rfl, by omega, HOB.out, HB1.out⟩
  case round =>
    obtain ⟨j, rfl, hj, ho, hb⟩ := hrel
    have HO := hidI ho
    have HB := hidI hb
    clear ho hb
    by_cases hlt : j < l.length
    · have hlti : (j : Int) < (l.length : Int) := by omega
      obtain ⟨x, hx⟩ : ∃ x, l[j]? = some x := ⟨_, List.getElem?_eq_getElem hlt⟩
      obtain ⟨b, off, rfl, hc⟩ := (HR.out.later HB.out).get hx
      have HX := hidI hx
      clear hx
      have c0 := hc 0 _ rfl
      simp only [Nat.add_zero, Nat.mul_one] at c0
      clear hc
      obtain ⟨j1, hj1⟩ : ∃ j1, j1 = j + 1 := ⟨_, rfl⟩
      have ej : (j : Int) + 1 = (j1 : Int) := by omega
      have HJ := hidI hj1
      clear hj1
      obtain ⟨v0, g0⟩ := HO.out.has (j * 1) (by omega)
      have f0 := HO.out.free (j * 1)
      have HN := hidI (HO.out.put (by omega) (flat_at (f := (fun x => [Value.string x])) (m := 1) (fun _ => rfl) l j x 0 _ HX.out rfl))
      simp only [Nat.mul_one] at g0 f0
      have hge : w.heap.size ≤ g := by have := HGG.out; omega
      go_wp2
      go_roundg (gk - 1)
      case rel => exact ⟨j1, rfl, by have := HJ.out; omega, by have := HN.out; simp only [Nat.mul_one] at this; rw [HJ.out, Nat.mul_one]; exact this, (HB.out.setCell hge _)⟩
      case measure => omega
    · have hlti : ¬ (j : Int) < (l.length : Int) := by omega
      obtain rfl : j = l.length := by omega
      go_wp2
      go_ret
      exact ⟨g, rfl, HO.out.all (flat_lenC (f := (fun x => [Value.string x])) (fun _ => rfl) l), HB.out⟩
theorem Try.infoTIm : (Try.prog.info? 78).map (fun i => (i.zero, i.size, i.bytes)) = some (some (.agg #[.string { data := #[] }, .string { data := #[] }, .string { data := #[] }]), 3, 48) := by kernel_rfl
set_option maxHeartbeats 800000 in
theorem toIm_any (x : Im) (w : World) :
    Calls Try.prog 67 #[.agg #[.string x.spec, .string x.first, .string x.loc]] w fun e w' => e = .returned (.agg #[.string x.spec, .string x.first, .string x.loc]) ∧ Below w.heap.size w w' := by
  go_enter Try.func67, Try.ntmps67
  go_wp2
  refine bodyPost_ret (results_cell_row rfl _ _ (w.heap.size + 1) 78 #[.string x.spec, .string x.first, .string x.loc] (0, 0) _ rfl ?_ Try.underlying78 rfl (by kernel_rfl)) rfl ?_
  · rw [heap_alloc_old _ _ (by show _ < ((w.heap.push _).push _).size; simp)]
    exact heap_alloc2_new w _ _
  · exact ⟨rfl, (((Below.refl _ _).alloc (Nat.le_refl _) _).alloc (by show _ ≤ (w.heap.push _).size; simp) _).alloc (by show _ ≤ ((w.heap.push _).push _).size; simp; omega) _⟩
set_option maxRecDepth 100000 in
set_option maxHeartbeats 3200000 in
theorem toImS_any (a : Option Addr) (cap : Nat) (l : List Im) (w : World) (hr : RowAt w a imL 3 l) (hl : l.length ≤ 1048576) :
    Calls Try.prog 31 #[.slice a l.length cap] w fun e w' => ToOut w 78 3 l.length (l.flatMap imL) e w' := by
  have HR := hidI hr
  clear hr
  obtain ⟨i0, hi, hz0, hz1, hz2⟩ := info_parts Try.infoTIm
  go_enter Try.func31, Try.ntmps31
  go_wp2_with (first | (at_make; refine wpList_make_full w rfl _ _ 31 rfl w.heap.size 78 i0 _ 3 Try.underlying31 hi hz0 hz1 .i64 .i64 _ _ l.length (by rfl) (by rfl) rfl rfl (by rw [hz2]; omega) (by unfold maxLen; omega) (Nat.le_refl _) ?_))
  intro w1 hown1 hgr1
  have HB1 := hidI ((Below.refl _ _).grown hgr1 (Nat.le_refl _) (fun k h => by cases h) : Below w.heap.size w w1)
  have HO1 : Hid (OwnC w1 w.heap.size 78 3 w.heap.size l.length (l.flatMap imL) 0) := ⟨_, hown1, fun j hj => absurd hj (Nat.not_lt_zero j)⟩
  clear hown1 hgr1
  obtain ⟨g, hg⟩ : ∃ g, g = w.heap.size := ⟨_, rfl⟩
  have HGG := hidI hg
  rw [← hg]
  rw [← hg] at HO1
  have HOB : Hid (OwnC w1 w.heap.size 78 3 g l.length (l.flatMap imL) 0) := by rw [← hg]; exact HO1.out
  clear hg HO1
  go_wp2
  go_loopg [4] l.length (fun k i wr => ∃ j : Nat, i = .int .i64 j ∧ j + k = l.length ∧ OwnC wr w.heap.size 78 3 g l.length (l.flatMap imL) (j * 3) ∧ Below w.heap.size w wr)
  case atStart => exact ⟨0, rfl, by omega, HOB.out, HB1.out⟩
  case round =>
    obtain ⟨j, rfl, hj, ho, hb⟩ := hrel
    have HO := hidI ho
    have HB := hidI hb
    clear ho hb
    by_cases hlt : j < l.length
    · have hlti : (j : Int) < (l.length : Int) := by omega
      obtain ⟨x, hx⟩ : ∃ x, l[j]? = some x := ⟨_, List.getElem?_eq_getElem hlt⟩
      obtain ⟨b, off, rfl, hc⟩ := (HR.out.later HB.out).get hx
      have HX := hidI hx
      clear hx
      have c0 := hc 0 _ rfl
      have c1 := hc 1 _ rfl
      have c2 := hc 2 _ rfl
      simp only [Nat.add_zero] at c0
      clear hc
      obtain ⟨j1, hj1⟩ : ∃ j1, j1 = j + 1 := ⟨_, rfl⟩
      have ej : (j : Int) + 1 = (j1 : Int) := by omega
      have HJ := hidI hj1
      clear hj1
      go_wp2_with fail
      refine (toIm_any x _).mono ?_
      rintro e w2 ⟨rfl, hb2⟩
      have HO2 := hidI (HO.out.later hb2)
      have HB2 := hidI (HB.out.trans (hb2.mono HB.out.size))
      clear hb2 c0 c1 c2
      obtain ⟨v0, g0⟩ := HO2.out.has (j * 3) (by omega)
      have f0 := HO2.out.free (j * 3)
      obtain ⟨v1, g1⟩ := HO2.out.has (j * 3 + 1) (by omega)
      have f1 := HO2.out.free (j * 3 + 1)
      obtain ⟨v2, g2⟩ := HO2.out.has (j * 3 + 2) (by omega)
      have f2 := HO2.out.free (j * 3 + 2)
      have HN := hidI (((HO2.out.put (by omega) (flat_at (f := imL) (m := 3) (fun _ => rfl) l j x 0 _ HX.out rfl)).put (by omega) (flat_at (f := imL) (m := 3) (fun _ => rfl) l j x 1 _ HX.out rfl)).put (by omega) (flat_at (f := imL) (m := 3) (fun _ => rfl) l j x 2 _ HX.out rfl))
      have hge : w.heap.size ≤ g := by have := HGG.out; omega
      go_wp2
      go_roundg (gk - 1)
      case rel => exact ⟨j1, rfl, by have := HJ.out; omega, by rw [HJ.out, Nat.succ_mul]; exact HN.out, (((HB2.out.setCell hge _).setCell hge _).setCell hge _)⟩
      case measure => omega
    · have hlti : ¬ (j : Int) < (l.length : Int) := by omega
      obtain rfl : j = l.length := by omega
      go_wp2
      go_ret
      exact ⟨g, rfl, HO.out.all (flat_lenC (f := imL) (fun _ => rfl) l), HB.out⟩
theorem Try.infoTEp : (Try.prog.info? 55).map (fun i => (i.zero, i.size, i.bytes)) = some (some (.agg #[.int .i64 0, .string { data := #[] }, .string { data := #[] }, .string { data := #[] }]), 4, 56) := by kernel_rfl
set_option maxHeartbeats 800000 in
theorem toEp_any (x : Ep) (w : World) :
    Calls Try.prog 68 #[.agg #[.int .i64 x.kind, .string x.name, .string x.loc, .string x.spec]] w fun e w' => e = .returned (.agg #[.int .i64 x.kind, .string x.name, .string x.loc, .string x.spec]) ∧ Below w.heap.size w w' := by
  go_enter Try.func68, Try.ntmps68
  go_wp2
  refine bodyPost_ret (results_cell_row rfl _ _ (w.heap.size + 1) 55 #[.int .i64 x.kind, .string x.name, .string x.loc, .string x.spec] (0, 0) _ rfl ?_ Try.underlying55 rfl (by kernel_rfl)) rfl ?_
  · rw [heap_alloc_old _ _ (by show _ < ((w.heap.push _).push _).size; simp)]
    exact heap_alloc2_new w _ _
  · exact ⟨rfl, (((Below.refl _ _).alloc (Nat.le_refl _) _).alloc (by show _ ≤ (w.heap.push _).size; simp) _).alloc (by show _ ≤ ((w.heap.push _).push _).size; simp; omega) _⟩
set_option maxRecDepth 100000 in
set_option maxHeartbeats 3200000 in
theorem toEpS_any (a : Option Addr) (cap : Nat) (l : List Ep) (w : World) (hr : RowAt w a epL 4 l) (hl : l.length ≤ 1048576) :
    Calls Try.prog 32 #[.slice a l.length cap] w fun e w' => ToOut w 55 4 l.length (l.flatMap epL) e w' := by
  have HR := hidI hr
  clear hr
  obtain ⟨i0, hi, hz0, hz1, hz2⟩ := info_parts Try.infoTEp
  go_enter Try.func32, Try.ntmps32
  go_wp2_with (first | (at_make; refine wpList_make_full w rfl _ _ 32 rfl w.heap.size 55 i0 _ 4 Try.underlying32 hi hz0 hz1 .i64 .i64 _ _ l.length (by rfl) (by rfl) rfl rfl (by rw [hz2]; omega) (by unfold maxLen; omega) (Nat.le_refl _) ?_))
  intro w1 hown1 hgr1
  have HB1 := hidI ((Below.refl _ _).grown hgr1 (Nat.le_refl _) (fun k h => by cases h) : Below w.heap.size w w1)
  have HO1 : Hid (OwnC w1 w.heap.size 55 4 w.heap.size l.length (l.flatMap epL) 0) := ⟨_, hown1, fun j hj => absurd hj (Nat.not_lt_zero j)⟩
  clear hown1 hgr1
  obtain ⟨g, hg⟩ : ∃ g, g = w.heap.size := ⟨_, rfl⟩
  have HGG := hidI hg
  rw [← hg]
  rw [← hg] at HO1
  have HOB : Hid (OwnC w1 w.heap.size 55 4 g l.length (l.flatMap epL) 0) := by rw [← hg]; exact HO1.out
  clear hg HO1
  go_wp2
  go_loopg [4] l.length (fun k i wr => ∃ j : Nat, i = .int .i64 j ∧ j + k = l.length ∧ OwnC wr w.heap.size 55 4 g l.length (l.flatMap epL) (j * 4) ∧ Below w.heap.size w wr)
  case atStart => exact ⟨0, rfl, by omega, HOB.out, HB1.out⟩
  case round =>
    obtain ⟨j, rfl, hj, ho, hb⟩ := hrel
    have HO := hidI ho
    have HB := hidI hb
    clear ho hb
    by_cases hlt : j < l.length
    · have hlti : (j : Int) < (l.length : Int) := by omega
      obtain ⟨x, hx⟩ : ∃ x, l[j]? = some x := ⟨_, List.getElem?_eq_getElem hlt⟩
      obtain ⟨b, off, rfl, hc⟩ := (HR.out.later HB.out).get hx
      have HX := hidI hx
      clear hx
      have c0 := hc 0 _ rfl
      have c1 := hc 1 _ rfl
      have c2 := hc 2 _ rfl
      have c3 := hc 3 _ rfl
      simp only [Nat.add_zero] at c0
      clear hc
      obtain ⟨j1, hj1⟩ : ∃ j1, j1 = j + 1 := ⟨_, rfl⟩
      have ej : (j : Int) + 1 = (j1 : Int) := by omega
      have HJ := hidI hj1
      clear hj1
      go_wp2_with fail
      refine (toEp_any x _).mono ?_
      rintro e w2 ⟨rfl, hb2⟩
      have HO2 := hidI (HO.out.later hb2)
      have HB2 := hidI (HB.out.trans (hb2.mono HB.out.size))
      clear hb2 c0 c1 c2 c3
      obtain ⟨v0, g0⟩ := HO2.out.has (j * 4) (by omega)
      have f0 := HO2.out.free (j * 4)
      obtain ⟨v1, g1⟩ := HO2.out.has (j * 4 + 1) (by omega)
      have f1 := HO2.out.free (j * 4 + 1)
      obtain ⟨v2, g2⟩ := HO2.out.has (j * 4 + 2) (by omega)
      have f2 := HO2.out.free (j * 4 + 2)
      obtain ⟨v3, g3⟩ := HO2.out.has (j * 4 + 3) (by omega)
      have f3 := HO2.out.free (j * 4 + 3)
      have HN := hidI ((((HO2.out.put (by omega) (flat_at (f := epL) (m := 4) (fun _ => rfl) l j x 0 _ HX.out rfl)).put (by omega) (flat_at (f := epL) (m := 4) (fun _ => rfl) l j x 1 _ HX.out rfl)).put (by omega) (flat_at (f := epL) (m := 4) (fun _ => rfl) l j x 2 _ HX.out rfl)).put (by omega) (flat_at (f := epL) (m := 4) (fun _ => rfl) l j x 3 _ HX.out rfl))
      have hge : w.heap.size ≤ g := by have := HGG.out; omega
      go_wp2
      go_roundg (gk - 1)
      case rel => exact ⟨j1, rfl, by have := HJ.out; omega, by rw [HJ.out, Nat.succ_mul]; exact HN.out, ((((HB2.out.setCell hge _).setCell hge _).setCell hge _).setCell hge _)⟩
      case measure => omega
    · have hlti : ¬ (j : Int) < (l.length : Int) := by omega
      obtain rfl : j = l.length := by omega
      go_wp2
      go_ret
      exact ⟨g, rfl, HO.out.all (flat_lenC (f := epL) (fun _ => rfl) l), HB.out⟩
theorem Try.infoTSm : (Try.prog.info? 53).map (fun i => (i.zero, i.size, i.bytes)) = some (some (.agg #[.int .i64 0, .string { data := #[] }, .int .i64 0]), 3, 32) := by kernel_rfl
set_option maxHeartbeats 800000 in
theorem toSm_any (x : Sm) (w : World) :
    Calls Try.prog 69 #[.agg #[.int .i64 x.kind, .string x.name, .int .i64 x.expr]] w fun e w' => e = .returned (.agg #[.int .i64 x.kind, .string x.name, .int .i64 x.expr]) ∧ Below w.heap.size w w' := by
  go_enter Try.func69, Try.ntmps69
  go_wp2
  refine bodyPost_ret (results_cell_row rfl _ _ (w.heap.size + 1) 53 #[.int .i64 x.kind, .string x.name, .int .i64 x.expr] (0, 0) _ rfl ?_ Try.underlying53 rfl (by kernel_rfl)) rfl ?_
  · rw [heap_alloc_old _ _ (by show _ < ((w.heap.push _).push _).size; simp)]
    exact heap_alloc2_new w _ _
  · exact ⟨rfl, (((Below.refl _ _).alloc (Nat.le_refl _) _).alloc (by show _ ≤ (w.heap.push _).size; simp) _).alloc (by show _ ≤ ((w.heap.push _).push _).size; simp; omega) _⟩
set_option maxRecDepth 100000 in
set_option maxHeartbeats 3200000 in
theorem toSmS_any (a : Option Addr) (cap : Nat) (l : List Sm) (w : World) (hr : RowAt w a smL 3 l) (hl : l.length ≤ 1048576) :
    Calls Try.prog 33 #[.slice a l.length cap] w fun e w' => ToOut w 53 3 l.length (l.flatMap smL) e w' := by
  have HR := hidI hr
  clear hr
  obtain ⟨i0, hi, hz0, hz1, hz2⟩ := info_parts Try.infoTSm
  go_enter Try.func33, Try.ntmps33
  go_wp2_with (first | (at_make; refine wpList_make_full w rfl _ _ 33 rfl w.heap.size 53 i0 _ 3 Try.underlying33 hi hz0 hz1 .i64 .i64 _ _ l.length (by rfl) (by rfl) rfl rfl (by rw [hz2]; omega) (by unfold maxLen; omega) (Nat.le_refl _) ?_))
  intro w1 hown1 hgr1
  have HB1 := hidI ((Below.refl _ _).grown hgr1 (Nat.le_refl _) (fun k h => by cases h) : Below w.heap.size w w1)
  have HO1 : Hid (OwnC w1 w.heap.size 53 3 w.heap.size l.length (l.flatMap smL) 0) := ⟨_, hown1, fun j hj => absurd hj (Nat.not_lt_zero j)⟩
  clear hown1 hgr1
  obtain ⟨g, hg⟩ : ∃ g, g = w.heap.size := ⟨_, rfl⟩
  have HGG := hidI hg
  rw [← hg]
  rw [← hg] at HO1
  have HOB : Hid (OwnC w1 w.heap.size 53 3 g l.length (l.flatMap smL) 0) := by rw [← hg]; exact HO1.out
  clear hg HO1
  go_wp2
  go_loopg [4] l.length (fun k i wr => ∃ j : Nat, i = .int .i64 j ∧ j + k = l.length ∧ OwnC wr w.heap.size 53 3 g l.length (l.flatMap smL) (j * 3) ∧ Below w.heap.size w wr)
  case atStart => exact ⟨0, rfl, by omega, HOB.out, HB1.out⟩
  case round =>
    obtain ⟨j, rfl, hj, ho, hb⟩ := hrel
    have HO := hidI ho
    have HB := hidI hb
    clear ho hb
    by_cases hlt : j < l.length
    · have hlti : (j : Int) < (l.length : Int) := by omega
      obtain ⟨x, hx⟩ : ∃ x, l[j]? = some x := ⟨_, List.getElem?_eq_getElem hlt⟩
      obtain ⟨b, off, rfl, hc⟩ := (HR.out.later HB.out).get hx
      have HX := hidI hx
      clear hx
      have c0 := hc 0 _ rfl
      have c1 := hc 1 _ rfl
      have c2 := hc 2 _ rfl
      simp only [Nat.add_zero] at c0
      clear hc
      obtain ⟨j1, hj1⟩ : ∃ j1, j1 = j + 1 := ⟨_, rfl⟩
      have ej : (j : Int) + 1 = (j1 : Int) := by omega
      have HJ := hidI hj1
      clear hj1
      go_wp2_with fail
      refine (toSm_any x _).mono ?_
      rintro e w2 ⟨rfl, hb2⟩
      have HO2 := hidI (HO.out.later hb2)
      have HB2 := hidI (HB.out.trans (hb2.mono HB.out.size))
      clear hb2 c0 c1 c2
      obtain ⟨v0, g0⟩ := HO2.out.has (j * 3) (by omega)
      have f0 := HO2.out.free (j * 3)
      obtain ⟨v1, g1⟩ := HO2.out.has (j * 3 + 1) (by omega)
      have f1 := HO2.out.free (j * 3 + 1)
      obtain ⟨v2, g2⟩ := HO2.out.has (j * 3 + 2) (by omega)
      have f2 := HO2.out.free (j * 3 + 2)
      have HN := hidI (((HO2.out.put (by omega) (flat_at (f := smL) (m := 3) (fun _ => rfl) l j x 0 _ HX.out rfl)).put (by omega) (flat_at (f := smL) (m := 3) (fun _ => rfl) l j x 1 _ HX.out rfl)).put (by omega) (flat_at (f := smL) (m := 3) (fun _ => rfl) l j x 2 _ HX.out rfl))
      have hge : w.heap.size ≤ g := by have := HGG.out; omega
      go_wp2
      go_roundg (gk - 1)
      case rel => exact ⟨j1, rfl, by have := HJ.out; omega, by rw [HJ.out, Nat.succ_mul]; exact HN.out, (((HB2.out.setCell hge _).setCell hge _).setCell hge _)⟩
      case measure => omega
    · have hlti : ¬ (j : Int) < (l.length : Int) := by omega
      obtain rfl : j = l.length := by omega
      go_wp2
      go_ret
      exact ⟨g, rfl, HO.out.all (flat_lenC (f := smL) (fun _ => rfl) l), HB.out⟩
theorem Try.infoTEx : (Try.prog.info? 50).map (fun i => (i.zero, i.size, i.bytes)) = some (some (.agg #[.int .i64 0, .int .i64 0, .string { data := #[] }, .string { data := #[] }, .int .i64 0, .int .i64 0]), 6, 64) := by kernel_rfl
set_option maxHeartbeats 800000 in
theorem toEx_any (x : Ex) (w : World) :
    Calls Try.prog 70 #[.agg #[.int .i64 x.kind, .int .i64 x.num, .string x.name, .string x.field, .int .i64 x.l, .int .i64 x.r]] w fun e w' => e = .returned (.agg #[.int .i64 x.kind, .int .i64 x.num, .string x.name, .string x.field, .int .i64 x.l, .int .i64 x.r]) ∧ Below w.heap.size w w' := by
  go_enter Try.func70, Try.ntmps70
  go_wp2
  refine bodyPost_ret (results_cell_row rfl _ _ (w.heap.size + 1) 50 #[.int .i64 x.kind, .int .i64 x.num, .string x.name, .string x.field, .int .i64 x.l, .int .i64 x.r] (0, 0) _ rfl ?_ Try.underlying50 rfl (by kernel_rfl)) rfl ?_
  · rw [heap_alloc_old _ _ (by show _ < ((w.heap.push _).push _).size; simp)]
    exact heap_alloc2_new w _ _
  · exact ⟨rfl, (((Below.refl _ _).alloc (Nat.le_refl _) _).alloc (by show _ ≤ (w.heap.push _).size; simp) _).alloc (by show _ ≤ ((w.heap.push _).push _).size; simp; omega) _⟩
set_option maxRecDepth 100000 in
set_option maxHeartbeats 3200000 in
theorem toExS_any (a : Option Addr) (cap : Nat) (l : List Ex) (w : World) (hr : RowAt w a exL 6 l) (hl : l.length ≤ 1048576) :
    Calls Try.prog 34 #[.slice a l.length cap] w fun e w' => ToOut w 50 6 l.length (l.flatMap exL) e w' := by
  have HR := hidI hr
  clear hr
  obtain ⟨i0, hi, hz0, hz1, hz2⟩ := info_parts Try.infoTEx
  go_enter Try.func34, Try.ntmps34
  go_wp2_with (first | (at_make; refine wpList_make_full w rfl _ _ 34 rfl w.heap.size 50 i0 _ 6 Try.underlying34 hi hz0 hz1 .i64 .i64 _ _ l.length (by rfl) (by rfl) rfl rfl (by rw [hz2]; omega) (by unfold maxLen; omega) (Nat.le_refl _) ?_))
  intro w1 hown1 hgr1
  have HB1 := hidI ((Below.refl _ _).grown hgr1 (Nat.le_refl _) (fun k h => by cases h) : Below w.heap.size w w1)
  have HO1 : Hid (OwnC w1 w.heap.size 50 6 w.heap.size l.length (l.flatMap exL) 0) := ⟨_, hown1, fun j hj => absurd hj (Nat.not_lt_zero j)⟩
  clear hown1 hgr1
  obtain ⟨g, hg⟩ : ∃ g, g = w.heap.size := ⟨_, rfl⟩
  have HGG := hidI hg
  rw [← hg]
  rw [← hg] at HO1
  have HOB : Hid (OwnC w1 w.heap.size 50 6 g l.length (l.flatMap exL) 0) := by rw [← hg]; exact HO1.out
  clear hg HO1
  go_wp2
  go_loopg [4] l.length (fun k i wr => ∃ j : Nat, i = .int .i64 j ∧ j + k = l.length ∧ OwnC wr w.heap.size 50 6 g l.length (l.flatMap exL) (j * 6) ∧ Below w.heap.size w wr)
  case atStart => exact ⟨0, rfl, by omega, HOB.out, HB1.out⟩
  case round =>
    obtain ⟨j, rfl, hj, ho, hb⟩ := hrel
    have HO := hidI ho
    have HB := hidI hb
    clear ho hb
    by_cases hlt : j < l.length
    · have hlti : (j : Int) < (l.length : Int) := by omega
      obtain ⟨x, hx⟩ : ∃ x, l[j]? = some x := ⟨_, List.getElem?_eq_getElem hlt⟩
      obtain ⟨b, off, rfl, hc⟩ := (HR.out.later HB.out).get hx
      have HX := hidI hx
      clear hx
      have c0 := hc 0 _ rfl
      have c1 := hc 1 _ rfl
      have c2 := hc 2 _ rfl
      have c3 := hc 3 _ rfl
      have c4 := hc 4 _ rfl
      have c5 := hc 5 _ rfl
      simp only [Nat.add_zero] at c0
      clear hc
      obtain ⟨j1, hj1⟩ : ∃ j1, j1 = j + 1 := ⟨_, rfl⟩
      have ej : (j : Int) + 1 = (j1 : Int) := by omega
      have HJ := hidI hj1
      clear hj1
      go_wp2_with fail
      refine (toEx_any x _).mono ?_
      rintro e w2 ⟨rfl, hb2⟩
      have HO2 := hidI (HO.out.later hb2)
      have HB2 := hidI (HB.out.trans (hb2.mono HB.out.size))
      clear hb2 c0 c1 c2 c3 c4 c5
      obtain ⟨v0, g0⟩ := HO2.out.has (j * 6) (by omega)
      have f0 := HO2.out.free (j * 6)
      obtain ⟨v1, g1⟩ := HO2.out.has (j * 6 + 1) (by omega)
      have f1 := HO2.out.free (j * 6 + 1)
      obtain ⟨v2, g2⟩ := HO2.out.has (j * 6 + 2) (by omega)
      have f2 := HO2.out.free (j * 6 + 2)
      obtain ⟨v3, g3⟩ := HO2.out.has (j * 6 + 3) (by omega)
      have f3 := HO2.out.free (j * 6 + 3)
      obtain ⟨v4, g4⟩ := HO2.out.has (j * 6 + 4) (by omega)
      have f4 := HO2.out.free (j * 6 + 4)
      obtain ⟨v5, g5⟩ := HO2.out.has (j * 6 + 5) (by omega)
      have f5 := HO2.out.free (j * 6 + 5)
      have HN := hidI ((((((HO2.out.put (by omega) (flat_at (f := exL) (m := 6) (fun _ => rfl) l j x 0 _ HX.out rfl)).put (by omega) (flat_at (f := exL) (m := 6) (fun _ => rfl) l j x 1 _ HX.out rfl)).put (by omega) (flat_at (f := exL) (m := 6) (fun _ => rfl) l j x 2 _ HX.out rfl)).put (by omega) (flat_at (f := exL) (m := 6) (fun _ => rfl) l j x 3 _ HX.out rfl)).put (by omega) (flat_at (f := exL) (m := 6) (fun _ => rfl) l j x 4 _ HX.out rfl)).put (by omega) (flat_at (f := exL) (m := 6) (fun _ => rfl) l j x 5 _ HX.out rfl))
      have hge : w.heap.size ≤ g := by have := HGG.out; omega
      go_wp2
      go_roundg (gk - 1)
      case rel => exact ⟨j1, rfl, by have := HJ.out; omega, by rw [HJ.out, Nat.succ_mul]; exact HN.out, ((((((HB2.out.setCell hge _).setCell hge _).setCell hge _).setCell hge _).setCell hge _).setCell hge _)⟩
      case measure => omega
    · have hlti : ¬ (j : Int) < (l.length : Int) := by omega
      obtain rfl : j = l.length := by omega
      go_wp2
      go_ret
      exact ⟨g, rfl, HO.out.all (flat_lenC (f := exL) (fun _ => rfl) l), HB.out⟩
end Go.Proofs.Ytaakfnclelcopaa
namespace Go.Proofs.Ytaakfnclelcopaa
open Go.RowKit Go.PlainAid Go.Sort

theorem map_flatT (l : List ByteArray) : l.map Value.string = l.flatMap (fun x => [Value.string x]) := by
  induction l with
  | nil => rfl
  | cons x l ih => rw [List.map_cons, List.flatMap_cons, ih]; rfl
def ToModOut (w : World) (m : Md) (e : Ending) (w' : World) : Prop := ∃ S, e = .returned (modD S m) ∧ OwnMd w' w.heap.size S m ∧ Below w.heap.size w w'
theorem own_aside {w : World} {base size n c i : Nat} {e : TypeId} {r : Rw} {xs : List Value} {u : Value} {cs : Array Value} (h : OwnR w base e size r n xs) (hc : w.heap[c]? = some (.cells cs 36 (0, 0))) (he : e ≠ 36) : OwnR (w.setCell ⟨c, i, none⟩ u) base e size r n xs :=
  h.keep fun k g => heap_setCell_other w ⟨c, i, none⟩ k u fun eq => by
    obtain ⟨_, _, cur, hk⟩ := h.typed g
    simp only at eq
    rw [eq, hc] at hk
    simp only [Option.some.injEq, Obj.cells.injEq] at hk
    exact he hk.2.1.symm
abbrev set5 (w : World) (b : Nat) (x0 x1 x2 x3 x4 : Value) : World := ((((w.setCell ⟨b, 0, none⟩ x0).setCell ⟨b, 1, none⟩ x1).setCell ⟨b, 2, none⟩ x2).setCell ⟨b, 3, none⟩ x3).setCell ⟨b, 4, none⟩ x4
theorem own_aside5 {w : World} {base size n c : Nat} {e : TypeId} {r : Rw} {xs : List Value} {v0 v1 v2 v3 v4 x0 x1 x2 x3 x4 : Value} (h : OwnR w base e size r n xs) (hc : w.heap[c]? = some (.cells #[v0, v1, v2, v3, v4] 36 (0, 0))) (he : e ≠ 36) : OwnR (set5 w c x0 x1 x2 x3 x4) base e size r n xs := by
  have h0 := qcell (i := 0) (u := x0) hc
  have h1 := qcell (i := 1) (u := x1) h0
  have h2 := qcell (i := 2) (u := x2) h1
  have h3 := qcell (i := 3) (u := x3) h2
  exact own_aside (own_aside (own_aside (own_aside (own_aside h hc he) h0 he) h1 he) h2 he) h3 he
set_option maxRecDepth 100000 in
set_option maxHeartbeats 6400000 in
theorem toMod_any (A : MA) (m : Md) (w : World) (hr : ModIn w A m) (f1 : m.rq.length ≤ 1048576) (f2 : m.im.length ≤ 1048576) (f3 : m.ep.length ≤ 1048576) (f4 : m.st.length ≤ 1048576) (f5 : m.ex.length ≤ 1048576) :
    Calls Try.prog 9 #[modA A m] w fun e w' => ToModOut w m e w' := by
  have HR := hidI hr
  clear hr
  unfold modA
  go_enter Try.func9, Try.ntmps9
  go_upto_region 2 with fail
  obtain ⟨gx, hgx⟩ : ∃ gx, gx = w.heap.size := ⟨_, rfl⟩
  rw [← hgx]
  refine world_anyI (R := (fun W => W.heap[gx]? = some (.cells #[.slice A.a0 m.rq.length A.c0, .slice A.a1 m.im.length A.c1, .slice A.a2 m.ep.length A.c2, .slice A.a3 m.st.length A.c3, .slice A.a4 m.ex.length A.c4] 28 (0, 0)) ∧ W.heap[gx + 1]? = some (.cells #[.slice none 0 0, .slice none 0 0, .slice none 0 0, .slice none 0 0, .slice none 0 0] 36 (0, 0)) ∧ W.heap[gx + 2]? = some (.cells #[.slice none 0 0, .slice none 0 0, .slice none 0 0, .slice none 0 0, .slice none 0 0] 36 (0, 0)) ∧ Below w.heap.size w W)) ?_ ?_
  · rw [hgx]
    refine ⟨?_, ?_, ?_, ?_⟩
    · rw [heap_alloc_old _ _ (by show _ < ((w.heap.push _).push _).size; simp; omega), heap_alloc_old _ _ (by show _ < (w.heap.push _).size; simp)]
      exact heap_alloc_new w _
    · rw [heap_alloc_old _ _ (by show _ < ((w.heap.push _).push _).size; simp)]
      exact heap_alloc2_new w _ _
    · have := heap_alloc_new ((w.alloc (.cells #[.slice A.a0 m.rq.length A.c0, .slice A.a1 m.im.length A.c1, .slice A.a2 m.ep.length A.c2, .slice A.a3 m.st.length A.c3, .slice A.a4 m.ex.length A.c4] 28)).alloc (.cells #[.slice none 0 0, .slice none 0 0, .slice none 0 0, .slice none 0 0, .slice none 0 0] 36)) (.cells #[.slice none 0 0, .slice none 0 0, .slice none 0 0, .slice none 0 0, .slice none 0 0] 36)
      simp only [alloc_size] at this
      exact this
    · exact (((Below.refl _ _).alloc (Nat.le_refl _) _).alloc (by show _ ≤ (w.heap.push _).size; simp) _).alloc (by show _ ≤ ((w.heap.push _).push _).size; simp; omega) _
  have hge : w.heap.size ≤ gx + 2 := by omega
  have hge1 : w.heap.size ≤ gx + 1 := by omega
  clear hgx
  rintro W0 ⟨hx, hy, hz, hb⟩
  have X := hidI hx
  have Y := hidI hy
  have Z := hidI hz
  have HB := hidI hb
  clear hx hy hz hb
  obtain ⟨c0, c1, c2, c3, c4, cf⟩ := five_of X.out
  go_wp2_with fail
  refine (toStrS_any A.a0 A.c0 m.rq W0 (HR.out.later HB.out).1 f1).mono ?_
  rintro e V0 ⟨g0, rfl, hown, hb⟩
  have X2 := hidI ((hb.block _ (Array.getElem?_eq_some_iff.1 X.out).1).trans X.out)
  have Y2 := hidI ((hb.block _ (Array.getElem?_eq_some_iff.1 Y.out).1).trans Y.out)
  have Z2 := hidI ((hb.block _ (Array.getElem?_eq_some_iff.1 Z.out).1).trans Z.out)
  have HB2 := hidI (HB.out.trans (hb.mono HB.out.size))
  have P0 := hidI (hown.low HB.out.size)
  clear hown hb c0 c1 c2 c3 c4 cf X Y Z HB
  obtain ⟨c0, c1, c2, c3, c4, cf⟩ := five_of Z2.out
  go_upto_region 3 with fail
  refine world_anyI (R := (fun W => W.heap[gx]? = some (.cells #[.slice A.a0 m.rq.length A.c0, .slice A.a1 m.im.length A.c1, .slice A.a2 m.ep.length A.c2, .slice A.a3 m.st.length A.c3, .slice A.a4 m.ex.length A.c4] 28 (0, 0)) ∧ W.heap[gx + 1]? = some (.cells #[.slice none 0 0, .slice none 0 0, .slice none 0 0, .slice none 0 0, .slice none 0 0] 36 (0, 0)) ∧ W.heap[gx + 2]? = some (.cells #[.slice (some ⟨g0, 0, none⟩) m.rq.length m.rq.length, .slice none 0 0, .slice none 0 0, .slice none 0 0, .slice none 0 0] 36 (0, 0)) ∧ Below w.heap.size w W ∧ OwnR W w.heap.size 9 1 ⟨some ⟨g0, 0, none⟩, m.rq.length⟩ m.rq.length (m.rq.flatMap (fun x => [Value.string x])))) ⟨(heap_setCell_other _ _ _ _ (by show gx ≠ gx + 2; omega)).trans X2.out, (heap_setCell_other _ _ _ _ (by show gx + 1 ≠ gx + 2; omega)).trans Y2.out, (qcell Z2.out).trans (by simp), HB2.out.setCell hge _, own_aside P0.out Z2.out (by decide)⟩ ?_
  clear X2 Y2 Z2 HB2 c0 c1 c2 c3 c4 cf P0
  rintro W1 ⟨hx, hy, hz, hb, o0⟩
  have X := hidI hx
  have Y := hidI hy
  have Z := hidI hz
  have HB := hidI hb
  have O0 := hidI o0
  clear hx hy hz hb o0
  obtain ⟨c0, c1, c2, c3, c4, cf⟩ := five_of X.out
  go_wp2_with fail
  refine (toImS_any A.a1 A.c1 m.im W1 (HR.out.later HB.out).2.1 f2).mono ?_
  rintro e V1 ⟨g1, rfl, hown, hb⟩
  have X2 := hidI ((hb.block _ (Array.getElem?_eq_some_iff.1 X.out).1).trans X.out)
  have Y2 := hidI ((hb.block _ (Array.getElem?_eq_some_iff.1 Y.out).1).trans Y.out)
  have Z2 := hidI ((hb.block _ (Array.getElem?_eq_some_iff.1 Z.out).1).trans Z.out)
  have HB2 := hidI (HB.out.trans (hb.mono HB.out.size))
  have P0 := hidI (O0.out.keep fun k g => hb.block k (O0.out.typed g).2.1)
  have P1 := hidI (hown.low HB.out.size)
  clear hown hb c0 c1 c2 c3 c4 cf X Y Z HB O0
  obtain ⟨c0, c1, c2, c3, c4, cf⟩ := five_of Z2.out
  go_upto_region 4 with fail
  refine world_anyI (R := (fun W => W.heap[gx]? = some (.cells #[.slice A.a0 m.rq.length A.c0, .slice A.a1 m.im.length A.c1, .slice A.a2 m.ep.length A.c2, .slice A.a3 m.st.length A.c3, .slice A.a4 m.ex.length A.c4] 28 (0, 0)) ∧ W.heap[gx + 1]? = some (.cells #[.slice none 0 0, .slice none 0 0, .slice none 0 0, .slice none 0 0, .slice none 0 0] 36 (0, 0)) ∧ W.heap[gx + 2]? = some (.cells #[.slice (some ⟨g0, 0, none⟩) m.rq.length m.rq.length, .slice (some ⟨g1, 0, none⟩) m.im.length m.im.length, .slice none 0 0, .slice none 0 0, .slice none 0 0] 36 (0, 0)) ∧ Below w.heap.size w W ∧ OwnR W w.heap.size 9 1 ⟨some ⟨g0, 0, none⟩, m.rq.length⟩ m.rq.length (m.rq.flatMap (fun x => [Value.string x])) ∧ OwnR W w.heap.size 78 3 ⟨some ⟨g1, 0, none⟩, m.im.length⟩ m.im.length (m.im.flatMap imL))) ⟨(heap_setCell_other _ _ _ _ (by show gx ≠ gx + 2; omega)).trans X2.out, (heap_setCell_other _ _ _ _ (by show gx + 1 ≠ gx + 2; omega)).trans Y2.out, (qcell Z2.out).trans (by simp), HB2.out.setCell hge _, own_aside P0.out Z2.out (by decide), own_aside P1.out Z2.out (by decide)⟩ ?_
  clear X2 Y2 Z2 HB2 c0 c1 c2 c3 c4 cf P0 P1
  rintro W2 ⟨hx, hy, hz, hb, o0, o1⟩
  have X := hidI hx
  have Y := hidI hy
  have Z := hidI hz
  have HB := hidI hb
  have O0 := hidI o0
  have O1 := hidI o1
  clear hx hy hz hb o0 o1
  obtain ⟨c0, c1, c2, c3, c4, cf⟩ := five_of X.out
  go_wp2_with fail
  refine (toEpS_any A.a2 A.c2 m.ep W2 (HR.out.later HB.out).2.2.1 f3).mono ?_
  rintro e V2 ⟨g2, rfl, hown, hb⟩
  have X2 := hidI ((hb.block _ (Array.getElem?_eq_some_iff.1 X.out).1).trans X.out)
  have Y2 := hidI ((hb.block _ (Array.getElem?_eq_some_iff.1 Y.out).1).trans Y.out)
  have Z2 := hidI ((hb.block _ (Array.getElem?_eq_some_iff.1 Z.out).1).trans Z.out)
  have HB2 := hidI (HB.out.trans (hb.mono HB.out.size))
  have P0 := hidI (O0.out.keep fun k g => hb.block k (O0.out.typed g).2.1)
  have P1 := hidI (O1.out.keep fun k g => hb.block k (O1.out.typed g).2.1)
  have P2 := hidI (hown.low HB.out.size)
  clear hown hb c0 c1 c2 c3 c4 cf X Y Z HB O0 O1
  obtain ⟨c0, c1, c2, c3, c4, cf⟩ := five_of Z2.out
  go_upto_region 5 with fail
  refine world_anyI (R := (fun W => W.heap[gx]? = some (.cells #[.slice A.a0 m.rq.length A.c0, .slice A.a1 m.im.length A.c1, .slice A.a2 m.ep.length A.c2, .slice A.a3 m.st.length A.c3, .slice A.a4 m.ex.length A.c4] 28 (0, 0)) ∧ W.heap[gx + 1]? = some (.cells #[.slice none 0 0, .slice none 0 0, .slice none 0 0, .slice none 0 0, .slice none 0 0] 36 (0, 0)) ∧ W.heap[gx + 2]? = some (.cells #[.slice (some ⟨g0, 0, none⟩) m.rq.length m.rq.length, .slice (some ⟨g1, 0, none⟩) m.im.length m.im.length, .slice (some ⟨g2, 0, none⟩) m.ep.length m.ep.length, .slice none 0 0, .slice none 0 0] 36 (0, 0)) ∧ Below w.heap.size w W ∧ OwnR W w.heap.size 9 1 ⟨some ⟨g0, 0, none⟩, m.rq.length⟩ m.rq.length (m.rq.flatMap (fun x => [Value.string x])) ∧ OwnR W w.heap.size 78 3 ⟨some ⟨g1, 0, none⟩, m.im.length⟩ m.im.length (m.im.flatMap imL) ∧ OwnR W w.heap.size 55 4 ⟨some ⟨g2, 0, none⟩, m.ep.length⟩ m.ep.length (m.ep.flatMap epL))) ⟨(heap_setCell_other _ _ _ _ (by show gx ≠ gx + 2; omega)).trans X2.out, (heap_setCell_other _ _ _ _ (by show gx + 1 ≠ gx + 2; omega)).trans Y2.out, (qcell Z2.out).trans (by simp), HB2.out.setCell hge _, own_aside P0.out Z2.out (by decide), own_aside P1.out Z2.out (by decide), own_aside P2.out Z2.out (by decide)⟩ ?_
  clear X2 Y2 Z2 HB2 c0 c1 c2 c3 c4 cf P0 P1 P2
  rintro W3 ⟨hx, hy, hz, hb, o0, o1, o2⟩
  have X := hidI hx
  have Y := hidI hy
  have Z := hidI hz
  have HB := hidI hb
  have O0 := hidI o0
  have O1 := hidI o1
  have O2 := hidI o2
  clear hx hy hz hb o0 o1 o2
  obtain ⟨c0, c1, c2, c3, c4, cf⟩ := five_of X.out
  go_wp2_with fail
  refine (toSmS_any A.a3 A.c3 m.st W3 (HR.out.later HB.out).2.2.2.1 f4).mono ?_
  rintro e V3 ⟨g3, rfl, hown, hb⟩
  have X2 := hidI ((hb.block _ (Array.getElem?_eq_some_iff.1 X.out).1).trans X.out)
  have Y2 := hidI ((hb.block _ (Array.getElem?_eq_some_iff.1 Y.out).1).trans Y.out)
  have Z2 := hidI ((hb.block _ (Array.getElem?_eq_some_iff.1 Z.out).1).trans Z.out)
  have HB2 := hidI (HB.out.trans (hb.mono HB.out.size))
  have P0 := hidI (O0.out.keep fun k g => hb.block k (O0.out.typed g).2.1)
  have P1 := hidI (O1.out.keep fun k g => hb.block k (O1.out.typed g).2.1)
  have P2 := hidI (O2.out.keep fun k g => hb.block k (O2.out.typed g).2.1)
  have P3 := hidI (hown.low HB.out.size)
  clear hown hb c0 c1 c2 c3 c4 cf X Y Z HB O0 O1 O2
  obtain ⟨c0, c1, c2, c3, c4, cf⟩ := five_of Z2.out
  go_upto_region 6 with fail
  refine world_anyI (R := (fun W => W.heap[gx]? = some (.cells #[.slice A.a0 m.rq.length A.c0, .slice A.a1 m.im.length A.c1, .slice A.a2 m.ep.length A.c2, .slice A.a3 m.st.length A.c3, .slice A.a4 m.ex.length A.c4] 28 (0, 0)) ∧ W.heap[gx + 1]? = some (.cells #[.slice none 0 0, .slice none 0 0, .slice none 0 0, .slice none 0 0, .slice none 0 0] 36 (0, 0)) ∧ W.heap[gx + 2]? = some (.cells #[.slice (some ⟨g0, 0, none⟩) m.rq.length m.rq.length, .slice (some ⟨g1, 0, none⟩) m.im.length m.im.length, .slice (some ⟨g2, 0, none⟩) m.ep.length m.ep.length, .slice (some ⟨g3, 0, none⟩) m.st.length m.st.length, .slice none 0 0] 36 (0, 0)) ∧ Below w.heap.size w W ∧ OwnR W w.heap.size 9 1 ⟨some ⟨g0, 0, none⟩, m.rq.length⟩ m.rq.length (m.rq.flatMap (fun x => [Value.string x])) ∧ OwnR W w.heap.size 78 3 ⟨some ⟨g1, 0, none⟩, m.im.length⟩ m.im.length (m.im.flatMap imL) ∧ OwnR W w.heap.size 55 4 ⟨some ⟨g2, 0, none⟩, m.ep.length⟩ m.ep.length (m.ep.flatMap epL) ∧ OwnR W w.heap.size 53 3 ⟨some ⟨g3, 0, none⟩, m.st.length⟩ m.st.length (m.st.flatMap smL))) ⟨(heap_setCell_other _ _ _ _ (by show gx ≠ gx + 2; omega)).trans X2.out, (heap_setCell_other _ _ _ _ (by show gx + 1 ≠ gx + 2; omega)).trans Y2.out, (qcell Z2.out).trans (by simp), HB2.out.setCell hge _, own_aside P0.out Z2.out (by decide), own_aside P1.out Z2.out (by decide), own_aside P2.out Z2.out (by decide), own_aside P3.out Z2.out (by decide)⟩ ?_
  clear X2 Y2 Z2 HB2 c0 c1 c2 c3 c4 cf P0 P1 P2 P3
  rintro W4 ⟨hx, hy, hz, hb, o0, o1, o2, o3⟩
  have X := hidI hx
  have Y := hidI hy
  have Z := hidI hz
  have HB := hidI hb
  have O0 := hidI o0
  have O1 := hidI o1
  have O2 := hidI o2
  have O3 := hidI o3
  clear hx hy hz hb o0 o1 o2 o3
  obtain ⟨c0, c1, c2, c3, c4, cf⟩ := five_of X.out
  go_wp2_with fail
  refine (toExS_any A.a4 A.c4 m.ex W4 (HR.out.later HB.out).2.2.2.2 f5).mono ?_
  rintro e V4 ⟨g4, rfl, hown, hb⟩
  have X2 := hidI ((hb.block _ (Array.getElem?_eq_some_iff.1 X.out).1).trans X.out)
  have Y2 := hidI ((hb.block _ (Array.getElem?_eq_some_iff.1 Y.out).1).trans Y.out)
  have Z2 := hidI ((hb.block _ (Array.getElem?_eq_some_iff.1 Z.out).1).trans Z.out)
  have HB2 := hidI (HB.out.trans (hb.mono HB.out.size))
  have P0 := hidI (O0.out.keep fun k g => hb.block k (O0.out.typed g).2.1)
  have P1 := hidI (O1.out.keep fun k g => hb.block k (O1.out.typed g).2.1)
  have P2 := hidI (O2.out.keep fun k g => hb.block k (O2.out.typed g).2.1)
  have P3 := hidI (O3.out.keep fun k g => hb.block k (O3.out.typed g).2.1)
  have P4 := hidI (hown.low HB.out.size)
  clear hown hb c0 c1 c2 c3 c4 cf X Y Z HB O0 O1 O2 O3
  obtain ⟨c0, c1, c2, c3, c4, cf⟩ := five_of Z2.out
  go_upto_region 7 with fail
  refine world_anyI (R := (fun W => W.heap[gx]? = some (.cells #[.slice A.a0 m.rq.length A.c0, .slice A.a1 m.im.length A.c1, .slice A.a2 m.ep.length A.c2, .slice A.a3 m.st.length A.c3, .slice A.a4 m.ex.length A.c4] 28 (0, 0)) ∧ W.heap[gx + 1]? = some (.cells #[.slice none 0 0, .slice none 0 0, .slice none 0 0, .slice none 0 0, .slice none 0 0] 36 (0, 0)) ∧ W.heap[gx + 2]? = some (.cells #[.slice (some ⟨g0, 0, none⟩) m.rq.length m.rq.length, .slice (some ⟨g1, 0, none⟩) m.im.length m.im.length, .slice (some ⟨g2, 0, none⟩) m.ep.length m.ep.length, .slice (some ⟨g3, 0, none⟩) m.st.length m.st.length, .slice (some ⟨g4, 0, none⟩) m.ex.length m.ex.length] 36 (0, 0)) ∧ Below w.heap.size w W ∧ OwnR W w.heap.size 9 1 ⟨some ⟨g0, 0, none⟩, m.rq.length⟩ m.rq.length (m.rq.flatMap (fun x => [Value.string x])) ∧ OwnR W w.heap.size 78 3 ⟨some ⟨g1, 0, none⟩, m.im.length⟩ m.im.length (m.im.flatMap imL) ∧ OwnR W w.heap.size 55 4 ⟨some ⟨g2, 0, none⟩, m.ep.length⟩ m.ep.length (m.ep.flatMap epL) ∧ OwnR W w.heap.size 53 3 ⟨some ⟨g3, 0, none⟩, m.st.length⟩ m.st.length (m.st.flatMap smL) ∧ OwnR W w.heap.size 50 6 ⟨some ⟨g4, 0, none⟩, m.ex.length⟩ m.ex.length (m.ex.flatMap exL))) ⟨(heap_setCell_other _ _ _ _ (by show gx ≠ gx + 2; omega)).trans X2.out, (heap_setCell_other _ _ _ _ (by show gx + 1 ≠ gx + 2; omega)).trans Y2.out, (qcell Z2.out).trans (by simp), HB2.out.setCell hge _, own_aside P0.out Z2.out (by decide), own_aside P1.out Z2.out (by decide), own_aside P2.out Z2.out (by decide), own_aside P3.out Z2.out (by decide), own_aside P4.out Z2.out (by decide)⟩ ?_
  clear X2 Y2 Z2 HB2 c0 c1 c2 c3 c4 cf P0 P1 P2 P3 P4
  rintro W5 ⟨hx, hy, hz, hb, o0, o1, o2, o3, o4⟩
  have Y := hidI hy
  have Z := hidI hz
  have HB := hidI hb
  have O0 := hidI o0
  have O1 := hidI o1
  have O2 := hidI o2
  have O3 := hidI o3
  have O4 := hidI o4
  clear hx hy hz hb o0 o1 o2 o3 o4
  obtain ⟨c0, c1, c2, c3, c4, cf⟩ := five_of Z.out
  obtain ⟨d0, d1, d2, d3, d4, df⟩ := five_of Y.out
  go_wp2
  refine bodyPost_ret (results_cell_row rfl _ _ (gx + 1) 36 #[.slice (some ⟨g0, 0, none⟩) m.rq.length m.rq.length, .slice (some ⟨g1, 0, none⟩) m.im.length m.im.length, .slice (some ⟨g2, 0, none⟩) m.ep.length m.ep.length, .slice (some ⟨g3, 0, none⟩) m.st.length m.st.length, .slice (some ⟨g4, 0, none⟩) m.ex.length m.ex.length] (0, 0) _ rfl ?_ Try.underlying36 rfl (by kernel_rfl)) rfl ?_
  · exact put5 Y.out
  · refine ⟨⟨⟨some ⟨g0, 0, none⟩, m.rq.length⟩, ⟨some ⟨g1, 0, none⟩, m.im.length⟩, ⟨some ⟨g2, 0, none⟩, m.ep.length⟩, ⟨some ⟨g3, 0, none⟩, m.st.length⟩, ⟨some ⟨g4, 0, none⟩, m.ex.length⟩, ⟨none, 0⟩⟩, rfl, ⟨?_, ?_, ?_, ?_, ?_⟩, ((((HB.out.setCell hge1 _).setCell hge1 _).setCell hge1 _).setCell hge1 _).setCell hge1 _⟩
    · rw [map_flatT]
      exact own_aside5 O0.out Y.out (by decide)
    · exact own_aside5 O1.out Y.out (by decide)
    · exact own_aside5 O2.out Y.out (by decide)
    · exact own_aside5 O3.out Y.out (by decide)
    · exact own_aside5 O4.out Y.out (by decide)
end Go.Proofs.Ytaakfnclelcopaa
namespace Go.Proofs.Ytaakfnclelcopaa
open Go.RowKit Go.PlainAid Go.Sort

set_option maxRecDepth 100000 in
set_option maxHeartbeats 3200000 in
theorem eqStringS_zero (a1 a2 : Option Addr) (c1 c2 : Nat) (w : World) : Calls Try.prog 11 #[.slice a1 0 c1, .slice a2 0 c2] w fun e w' => e = .returned (.bool true) ∧ Below w.heap.size w w' := by
  go_enter Try.func11, Try.ntmps11
  go_wp2
  go_loopg [5] 1 (fun k i wr => k = 1 ∧ i = .int .i64 0 ∧ wr = w)
  case atStart => exact ⟨rfl, rfl, rfl⟩
  case round =>
    obtain ⟨rfl, rfl, rfl⟩ := hrel
    go_wp2
    go_ret
    exact ⟨rfl, Below.refl _ _⟩
set_option maxRecDepth 100000 in
set_option maxHeartbeats 3200000 in
theorem eqStringS_row (b1 b2 g1 g2 : Nat) (r1 r2 : Rw) (l : List ByteArray) (w : World) (h1 : OwnR w b1 9 1 r1 l.length (l.flatMap (fun x => [Value.string x]))) (h2 : OwnR w b2 9 1 r2 l.length (l.flatMap (fun x => [Value.string x]))) (e1 : r1.a = some ⟨g1, 0, none⟩) (e2 : r2.a = some ⟨g2, 0, none⟩) (hl : l.length ≤ 4294967296) :
    Calls Try.prog 11 #[.slice (some ⟨g1, 0, none⟩) l.length r1.cap, .slice (some ⟨g2, 0, none⟩) l.length r2.cap] w fun e w' => e = .returned (.bool true) ∧ Below w.heap.size w w' := by
  have H1 := hidI h1
  have H2 := hidI h2
  have E1 := hidI e1
  have E2 := hidI e2
  clear h1 h2 e1 e2
  go_enter Try.func11, Try.ntmps11
  go_wp2
  go_loopg [5] l.length (fun k i wr => ∃ j : Nat, i = .int .i64 j ∧ j + k = l.length ∧ Below w.heap.size w wr)
  case atStart => exact ⟨0, rfl, by omega, Below.refl _ _⟩
  case round =>
    obtain ⟨j, rfl, hj, hb⟩ := hrel
    have HB := hidI hb
    clear hb
    by_cases hlt : j < l.length
    · have hlti : (j : Int) < (l.length : Int) := by omega
      obtain ⟨x, hx⟩ := rowsome hlt
      obtain ⟨g', ga, h1⟩ := OwnR.elem (f := (fun x => [Value.string x])) (m := 1) (fun _ => rfl) (H1.out.keep fun k g => HB.out.block k (H1.out.typed g).2.1) hx
      obtain rfl : g' = g1 := by have := ga.symm.trans E1.out; simpa using this
      obtain ⟨g', gb, h2⟩ := OwnR.elem (f := (fun x => [Value.string x])) (m := 1) (fun _ => rfl) (H2.out.keep fun k g => HB.out.block k (H2.out.typed g).2.1) hx
      obtain rfl : g' = g2 := by have := gb.symm.trans E2.out; simpa using this
      have C0 := hidI (h1 0 (by omega))
      have D0 := hidI (h2 0 (by omega))
      clear h1 h2 ga gb hx
      obtain ⟨j1, hj1⟩ : ∃ j1, j1 = j + 1 := ⟨_, rfl⟩
      have ej : (j : Int) + 1 = (j1 : Int) := by omega
      have HJ := hidI hj1
      clear hj1
      go_wp2
      have k0 := cell_regrown C0.out
      have l0 := cell_regrown D0.out
      simp only [Nat.add_zero, Nat.mul_one] at k0 l0
      refine wp_region_quiet_below (by kernel_rfl) (by kernel_rfl) ?_
      repeat (go_big_quiet_step (fail))
      refine wpQuiet_nil ?_
      intro w2 hw'
      obtain ⟨⟨dq, osq⟩, hw''⟩ := hw'
      have HB2 : Hid (Below w.heap.size w w2) := by show Below _ _ _; rw [hw'']; exact HB.out.trans ((below_regrown wr dq osq).mono HB.out.size)
      clear hw'' k0 l0 C0 D0
      go_wp2
      go_roundg (gk - 1)
      case rel => exact ⟨j1, rfl, by have := HJ.out; omega, HB2.out⟩
      case measure => omega
    · have hlti : ¬ (j : Int) < (l.length : Int) := by omega
      go_wp2
      go_ret
      exact ⟨rfl, HB.out⟩
theorem eqStringS_any (b1 b2 : Nat) (r1 r2 : Rw) (l : List ByteArray) (w : World) (h1 : OwnR w b1 9 1 r1 l.length (l.flatMap (fun x => [Value.string x]))) (h2 : OwnR w b2 9 1 r2 l.length (l.flatMap (fun x => [Value.string x]))) (hl : l.length ≤ 4294967296) :
    Calls Try.prog 11 #[.slice r1.a l.length r1.cap, .slice r2.a l.length r2.cap] w fun e w' => e = .returned (.bool true) ∧ Below w.heap.size w w' := by
  by_cases h0 : l.length = 0
  · rw [h0]
    exact eqStringS_zero _ _ _ _ w
  · rcases h1.nil_or with ⟨_, _, e⟩ | ⟨g1, e1⟩
    · exact absurd e h0
    · rcases h2.nil_or with ⟨_, _, e⟩ | ⟨g2, e2⟩
      · exact absurd e h0
      · rw [e1, e2]
        exact eqStringS_row b1 b2 g1 g2 r1 r2 l w h1 h2 e1 e2 hl
set_option maxRecDepth 100000 in
set_option maxHeartbeats 3200000 in
theorem eqImp_any (x : Im) (w : World) : Calls Try.prog 76 #[.agg #[.string x.spec, .string x.first, .string x.loc], .agg #[.string x.spec, .string x.first, .string x.loc]] w fun e w' => e = .returned (.bool true) ∧ Below w.heap.size w w' := by
  go_enter Try.func76, Try.ntmps76
  go_wp2
  go_ret
  exact ⟨rfl, ((Below.refl _ _).alloc (Nat.le_refl _) _).alloc (by show _ ≤ (w.heap.push _).size; simp) _⟩
set_option maxRecDepth 100000 in
set_option maxHeartbeats 3200000 in
theorem eqImpS_zero (a1 a2 : Option Addr) (c1 c2 : Nat) (w : World) : Calls Try.prog 37 #[.slice a1 0 c1, .slice a2 0 c2] w fun e w' => e = .returned (.bool true) ∧ Below w.heap.size w w' := by
  go_enter Try.func37, Try.ntmps37
  go_wp2
  go_loopg [5] 1 (fun k i wr => k = 1 ∧ i = .int .i64 0 ∧ wr = w)
  case atStart => exact ⟨rfl, rfl, rfl⟩
  case round =>
    obtain ⟨rfl, rfl, rfl⟩ := hrel
    go_wp2
    go_ret
    exact ⟨rfl, Below.refl _ _⟩
set_option maxRecDepth 100000 in
set_option maxHeartbeats 3200000 in
theorem eqImpS_row (b1 b2 g1 g2 : Nat) (r1 r2 : Rw) (l : List Im) (w : World) (h1 : OwnR w b1 78 3 r1 l.length (l.flatMap imL)) (h2 : OwnR w b2 78 3 r2 l.length (l.flatMap imL)) (e1 : r1.a = some ⟨g1, 0, none⟩) (e2 : r2.a = some ⟨g2, 0, none⟩) (hl : l.length ≤ 4294967296) :
    Calls Try.prog 37 #[.slice (some ⟨g1, 0, none⟩) l.length r1.cap, .slice (some ⟨g2, 0, none⟩) l.length r2.cap] w fun e w' => e = .returned (.bool true) ∧ Below w.heap.size w w' := by
  have H1 := hidI h1
  have H2 := hidI h2
  have E1 := hidI e1
  have E2 := hidI e2
  clear h1 h2 e1 e2
  go_enter Try.func37, Try.ntmps37
  go_wp2
  go_loopg [5] l.length (fun k i wr => ∃ j : Nat, i = .int .i64 j ∧ j + k = l.length ∧ Below w.heap.size w wr)
  case atStart => exact ⟨0, rfl, by omega, Below.refl _ _⟩
  case round =>
    obtain ⟨j, rfl, hj, hb⟩ := hrel
    have HB := hidI hb
    clear hb
    by_cases hlt : j < l.length
    · have hlti : (j : Int) < (l.length : Int) := by omega
      obtain ⟨x, hx⟩ := rowsome hlt
      obtain ⟨g', ga, h1⟩ := OwnR.elem (f := imL) (m := 3) (fun _ => rfl) (H1.out.keep fun k g => HB.out.block k (H1.out.typed g).2.1) hx
      obtain rfl : g' = g1 := by have := ga.symm.trans E1.out; simpa using this
      obtain ⟨g', gb, h2⟩ := OwnR.elem (f := imL) (m := 3) (fun _ => rfl) (H2.out.keep fun k g => HB.out.block k (H2.out.typed g).2.1) hx
      obtain rfl : g' = g2 := by have := gb.symm.trans E2.out; simpa using this
      have C0 := hidI (h1 0 (by omega))
      have D0 := hidI (h2 0 (by omega))
      have C1 := hidI (h1 1 (by omega))
      have D1 := hidI (h2 1 (by omega))
      have C2 := hidI (h1 2 (by omega))
      have D2 := hidI (h2 2 (by omega))
      clear h1 h2 ga gb hx
      have cQ : ∀ d os, Calls Try.prog 76 #[.agg #[.string x.spec, .string x.first, .string x.loc], .agg #[.string x.spec, .string x.first, .string x.loc]] (grow (redrawn wr d) os) fun e w'' => e = .returned (.bool true) ∧ ∃ p : Regrown, w'' = grow (redrawn wr p.d) p.os := fun d os => Calls.regrown_of (eqImp_any x _)
      obtain ⟨j1, hj1⟩ : ∃ j1, j1 = j + 1 := ⟨_, rfl⟩
      have ej : (j : Int) + 1 = (j1 : Int) := by omega
      have HJ := hidI hj1
      clear hj1
      go_wp2
      have k0 := cell_regrown C0.out
      have l0 := cell_regrown D0.out
      have k1 := cell_regrown C1.out
      have l1 := cell_regrown D1.out
      have k2 := cell_regrown C2.out
      have l2 := cell_regrown D2.out
      simp only [Nat.add_zero] at k0 l0
      refine wp_region_quiet_below (by kernel_rfl) (by kernel_rfl) ?_
      repeat (go_big_quiet_step (exact cQ _ _))
      refine wpQuiet_nil ?_
      intro w2 hw'
      obtain ⟨⟨dq, osq⟩, hw''⟩ := hw'
      have HB2 : Hid (Below w.heap.size w w2) := by show Below _ _ _; rw [hw'']; exact HB.out.trans ((below_regrown wr dq osq).mono HB.out.size)
      clear hw'' k0 l0 C0 D0 k1 l1 C1 D1 k2 l2 C2 D2 cQ
      go_wp2
      go_roundg (gk - 1)
      case rel => exact ⟨j1, rfl, by have := HJ.out; omega, HB2.out⟩
      case measure => omega
    · have hlti : ¬ (j : Int) < (l.length : Int) := by omega
      go_wp2
      go_ret
      exact ⟨rfl, HB.out⟩
theorem eqImpS_any (b1 b2 : Nat) (r1 r2 : Rw) (l : List Im) (w : World) (h1 : OwnR w b1 78 3 r1 l.length (l.flatMap imL)) (h2 : OwnR w b2 78 3 r2 l.length (l.flatMap imL)) (hl : l.length ≤ 4294967296) :
    Calls Try.prog 37 #[.slice r1.a l.length r1.cap, .slice r2.a l.length r2.cap] w fun e w' => e = .returned (.bool true) ∧ Below w.heap.size w w' := by
  by_cases h0 : l.length = 0
  · rw [h0]
    exact eqImpS_zero _ _ _ _ w
  · rcases h1.nil_or with ⟨_, _, e⟩ | ⟨g1, e1⟩
    · exact absurd e h0
    · rcases h2.nil_or with ⟨_, _, e⟩ | ⟨g2, e2⟩
      · exact absurd e h0
      · rw [e1, e2]
        exact eqImpS_row b1 b2 g1 g2 r1 r2 l w h1 h2 e1 e2 hl
set_option maxRecDepth 100000 in
set_option maxHeartbeats 3200000 in
theorem eqExp_any (x : Ep) (w : World) : Calls Try.prog 77 #[.agg #[.int .i64 x.kind, .string x.name, .string x.loc, .string x.spec], .agg #[.int .i64 x.kind, .string x.name, .string x.loc, .string x.spec]] w fun e w' => e = .returned (.bool true) ∧ Below w.heap.size w w' := by
  go_enter Try.func77, Try.ntmps77
  go_wp2
  go_ret
  exact ⟨rfl, ((Below.refl _ _).alloc (Nat.le_refl _) _).alloc (by show _ ≤ (w.heap.push _).size; simp) _⟩
set_option maxRecDepth 100000 in
set_option maxHeartbeats 3200000 in
theorem eqExpS_zero (a1 a2 : Option Addr) (c1 c2 : Nat) (w : World) : Calls Try.prog 38 #[.slice a1 0 c1, .slice a2 0 c2] w fun e w' => e = .returned (.bool true) ∧ Below w.heap.size w w' := by
  go_enter Try.func38, Try.ntmps38
  go_wp2
  go_loopg [5] 1 (fun k i wr => k = 1 ∧ i = .int .i64 0 ∧ wr = w)
  case atStart => exact ⟨rfl, rfl, rfl⟩
  case round =>
    obtain ⟨rfl, rfl, rfl⟩ := hrel
    go_wp2
    go_ret
    exact ⟨rfl, Below.refl _ _⟩
set_option maxRecDepth 100000 in
set_option maxHeartbeats 3200000 in
theorem eqExpS_row (b1 b2 g1 g2 : Nat) (r1 r2 : Rw) (l : List Ep) (w : World) (h1 : OwnR w b1 55 4 r1 l.length (l.flatMap epL)) (h2 : OwnR w b2 55 4 r2 l.length (l.flatMap epL)) (e1 : r1.a = some ⟨g1, 0, none⟩) (e2 : r2.a = some ⟨g2, 0, none⟩) (hl : l.length ≤ 4294967296) :
    Calls Try.prog 38 #[.slice (some ⟨g1, 0, none⟩) l.length r1.cap, .slice (some ⟨g2, 0, none⟩) l.length r2.cap] w fun e w' => e = .returned (.bool true) ∧ Below w.heap.size w w' := by
  have H1 := hidI h1
  have H2 := hidI h2
  have E1 := hidI e1
  have E2 := hidI e2
  clear h1 h2 e1 e2
  go_enter Try.func38, Try.ntmps38
  go_wp2
  go_loopg [5] l.length (fun k i wr => ∃ j : Nat, i = .int .i64 j ∧ j + k = l.length ∧ Below w.heap.size w wr)
  case atStart => exact ⟨0, rfl, by omega, Below.refl _ _⟩
  case round =>
    obtain ⟨j, rfl, hj, hb⟩ := hrel
    have HB := hidI hb
    clear hb
    by_cases hlt : j < l.length
    · have hlti : (j : Int) < (l.length : Int) := by omega
      obtain ⟨x, hx⟩ := rowsome hlt
      obtain ⟨g', ga, h1⟩ := OwnR.elem (f := epL) (m := 4) (fun _ => rfl) (H1.out.keep fun k g => HB.out.block k (H1.out.typed g).2.1) hx
      obtain rfl : g' = g1 := by have := ga.symm.trans E1.out; simpa using this
      obtain ⟨g', gb, h2⟩ := OwnR.elem (f := epL) (m := 4) (fun _ => rfl) (H2.out.keep fun k g => HB.out.block k (H2.out.typed g).2.1) hx
      obtain rfl : g' = g2 := by have := gb.symm.trans E2.out; simpa using this
      have C0 := hidI (h1 0 (by omega))
      have D0 := hidI (h2 0 (by omega))
      have C1 := hidI (h1 1 (by omega))
      have D1 := hidI (h2 1 (by omega))
      have C2 := hidI (h1 2 (by omega))
      have D2 := hidI (h2 2 (by omega))
      have C3 := hidI (h1 3 (by omega))
      have D3 := hidI (h2 3 (by omega))
      clear h1 h2 ga gb hx
      have cQ : ∀ d os, Calls Try.prog 77 #[.agg #[.int .i64 x.kind, .string x.name, .string x.loc, .string x.spec], .agg #[.int .i64 x.kind, .string x.name, .string x.loc, .string x.spec]] (grow (redrawn wr d) os) fun e w'' => e = .returned (.bool true) ∧ ∃ p : Regrown, w'' = grow (redrawn wr p.d) p.os := fun d os => Calls.regrown_of (eqExp_any x _)
      obtain ⟨j1, hj1⟩ : ∃ j1, j1 = j + 1 := ⟨_, rfl⟩
      have ej : (j : Int) + 1 = (j1 : Int) := by omega
      have HJ := hidI hj1
      clear hj1
      go_wp2
      have k0 := cell_regrown C0.out
      have l0 := cell_regrown D0.out
      have k1 := cell_regrown C1.out
      have l1 := cell_regrown D1.out
      have k2 := cell_regrown C2.out
      have l2 := cell_regrown D2.out
      have k3 := cell_regrown C3.out
      have l3 := cell_regrown D3.out
      simp only [Nat.add_zero] at k0 l0
      refine wp_region_quiet_below (by kernel_rfl) (by kernel_rfl) ?_
      repeat (go_big_quiet_step (exact cQ _ _))
      refine wpQuiet_nil ?_
      intro w2 hw'
      obtain ⟨⟨dq, osq⟩, hw''⟩ := hw'
      have HB2 : Hid (Below w.heap.size w w2) := by show Below _ _ _; rw [hw'']; exact HB.out.trans ((below_regrown wr dq osq).mono HB.out.size)
      clear hw'' k0 l0 C0 D0 k1 l1 C1 D1 k2 l2 C2 D2 k3 l3 C3 D3 cQ
      go_wp2
      go_roundg (gk - 1)
      case rel => exact ⟨j1, rfl, by have := HJ.out; omega, HB2.out⟩
      case measure => omega
    · have hlti : ¬ (j : Int) < (l.length : Int) := by omega
      go_wp2
      go_ret
      exact ⟨rfl, HB.out⟩
theorem eqExpS_any (b1 b2 : Nat) (r1 r2 : Rw) (l : List Ep) (w : World) (h1 : OwnR w b1 55 4 r1 l.length (l.flatMap epL)) (h2 : OwnR w b2 55 4 r2 l.length (l.flatMap epL)) (hl : l.length ≤ 4294967296) :
    Calls Try.prog 38 #[.slice r1.a l.length r1.cap, .slice r2.a l.length r2.cap] w fun e w' => e = .returned (.bool true) ∧ Below w.heap.size w w' := by
  by_cases h0 : l.length = 0
  · rw [h0]
    exact eqExpS_zero _ _ _ _ w
  · rcases h1.nil_or with ⟨_, _, e⟩ | ⟨g1, e1⟩
    · exact absurd e h0
    · rcases h2.nil_or with ⟨_, _, e⟩ | ⟨g2, e2⟩
      · exact absurd e h0
      · rw [e1, e2]
        exact eqExpS_row b1 b2 g1 g2 r1 r2 l w h1 h2 e1 e2 hl
set_option maxRecDepth 100000 in
set_option maxHeartbeats 3200000 in
theorem eqStmt_any (x : Sm) (w : World) : Calls Try.prog 78 #[.agg #[.int .i64 x.kind, .string x.name, .int .i64 x.expr], .agg #[.int .i64 x.kind, .string x.name, .int .i64 x.expr]] w fun e w' => e = .returned (.bool true) ∧ Below w.heap.size w w' := by
  go_enter Try.func78, Try.ntmps78
  go_wp2
  go_ret
  exact ⟨rfl, ((Below.refl _ _).alloc (Nat.le_refl _) _).alloc (by show _ ≤ (w.heap.push _).size; simp) _⟩
set_option maxRecDepth 100000 in
set_option maxHeartbeats 3200000 in
theorem eqStmtS_zero (a1 a2 : Option Addr) (c1 c2 : Nat) (w : World) : Calls Try.prog 39 #[.slice a1 0 c1, .slice a2 0 c2] w fun e w' => e = .returned (.bool true) ∧ Below w.heap.size w w' := by
  go_enter Try.func39, Try.ntmps39
  go_wp2
  go_loopg [5] 1 (fun k i wr => k = 1 ∧ i = .int .i64 0 ∧ wr = w)
  case atStart => exact ⟨rfl, rfl, rfl⟩
  case round =>
    obtain ⟨rfl, rfl, rfl⟩ := hrel
    go_wp2
    go_ret
    exact ⟨rfl, Below.refl _ _⟩
set_option maxRecDepth 100000 in
set_option maxHeartbeats 3200000 in
theorem eqStmtS_row (b1 b2 g1 g2 : Nat) (r1 r2 : Rw) (l : List Sm) (w : World) (h1 : OwnR w b1 53 3 r1 l.length (l.flatMap smL)) (h2 : OwnR w b2 53 3 r2 l.length (l.flatMap smL)) (e1 : r1.a = some ⟨g1, 0, none⟩) (e2 : r2.a = some ⟨g2, 0, none⟩) (hl : l.length ≤ 4294967296) :
    Calls Try.prog 39 #[.slice (some ⟨g1, 0, none⟩) l.length r1.cap, .slice (some ⟨g2, 0, none⟩) l.length r2.cap] w fun e w' => e = .returned (.bool true) ∧ Below w.heap.size w w' := by
  have H1 := hidI h1
  have H2 := hidI h2
  have E1 := hidI e1
  have E2 := hidI e2
  clear h1 h2 e1 e2
  go_enter Try.func39, Try.ntmps39
  go_wp2
  go_loopg [5] l.length (fun k i wr => ∃ j : Nat, i = .int .i64 j ∧ j + k = l.length ∧ Below w.heap.size w wr)
  case atStart => exact ⟨0, rfl, by omega, Below.refl _ _⟩
  case round =>
    obtain ⟨j, rfl, hj, hb⟩ := hrel
    have HB := hidI hb
    clear hb
    by_cases hlt : j < l.length
    · have hlti : (j : Int) < (l.length : Int) := by omega
      obtain ⟨x, hx⟩ := rowsome hlt
      obtain ⟨g', ga, h1⟩ := OwnR.elem (f := smL) (m := 3) (fun _ => rfl) (H1.out.keep fun k g => HB.out.block k (H1.out.typed g).2.1) hx
      obtain rfl : g' = g1 := by have := ga.symm.trans E1.out; simpa using this
      obtain ⟨g', gb, h2⟩ := OwnR.elem (f := smL) (m := 3) (fun _ => rfl) (H2.out.keep fun k g => HB.out.block k (H2.out.typed g).2.1) hx
      obtain rfl : g' = g2 := by have := gb.symm.trans E2.out; simpa using this
      have C0 := hidI (h1 0 (by omega))
      have D0 := hidI (h2 0 (by omega))
      have C1 := hidI (h1 1 (by omega))
      have D1 := hidI (h2 1 (by omega))
      have C2 := hidI (h1 2 (by omega))
      have D2 := hidI (h2 2 (by omega))
      clear h1 h2 ga gb hx
      have cQ : ∀ d os, Calls Try.prog 78 #[.agg #[.int .i64 x.kind, .string x.name, .int .i64 x.expr], .agg #[.int .i64 x.kind, .string x.name, .int .i64 x.expr]] (grow (redrawn wr d) os) fun e w'' => e = .returned (.bool true) ∧ ∃ p : Regrown, w'' = grow (redrawn wr p.d) p.os := fun d os => Calls.regrown_of (eqStmt_any x _)
      obtain ⟨j1, hj1⟩ : ∃ j1, j1 = j + 1 := ⟨_, rfl⟩
      have ej : (j : Int) + 1 = (j1 : Int) := by omega
      have HJ := hidI hj1
      clear hj1
      go_wp2
      have k0 := cell_regrown C0.out
      have l0 := cell_regrown D0.out
      have k1 := cell_regrown C1.out
      have l1 := cell_regrown D1.out
      have k2 := cell_regrown C2.out
      have l2 := cell_regrown D2.out
      simp only [Nat.add_zero] at k0 l0
      refine wp_region_quiet_below (by kernel_rfl) (by kernel_rfl) ?_
      repeat (go_big_quiet_step (exact cQ _ _))
      refine wpQuiet_nil ?_
      intro w2 hw'
      obtain ⟨⟨dq, osq⟩, hw''⟩ := hw'
      have HB2 : Hid (Below w.heap.size w w2) := by show Below _ _ _; rw [hw'']; exact HB.out.trans ((below_regrown wr dq osq).mono HB.out.size)
      clear hw'' k0 l0 C0 D0 k1 l1 C1 D1 k2 l2 C2 D2 cQ
      go_wp2
      go_roundg (gk - 1)
      case rel => exact ⟨j1, rfl, by have := HJ.out; omega, HB2.out⟩
      case measure => omega
    · have hlti : ¬ (j : Int) < (l.length : Int) := by omega
      go_wp2
      go_ret
      exact ⟨rfl, HB.out⟩
theorem eqStmtS_any (b1 b2 : Nat) (r1 r2 : Rw) (l : List Sm) (w : World) (h1 : OwnR w b1 53 3 r1 l.length (l.flatMap smL)) (h2 : OwnR w b2 53 3 r2 l.length (l.flatMap smL)) (hl : l.length ≤ 4294967296) :
    Calls Try.prog 39 #[.slice r1.a l.length r1.cap, .slice r2.a l.length r2.cap] w fun e w' => e = .returned (.bool true) ∧ Below w.heap.size w w' := by
  by_cases h0 : l.length = 0
  · rw [h0]
    exact eqStmtS_zero _ _ _ _ w
  · rcases h1.nil_or with ⟨_, _, e⟩ | ⟨g1, e1⟩
    · exact absurd e h0
    · rcases h2.nil_or with ⟨_, _, e⟩ | ⟨g2, e2⟩
      · exact absurd e h0
      · rw [e1, e2]
        exact eqStmtS_row b1 b2 g1 g2 r1 r2 l w h1 h2 e1 e2 hl
set_option maxRecDepth 100000 in
set_option maxHeartbeats 3200000 in
theorem eqExpr_any (x : Ex) (w : World) : Calls Try.prog 79 #[.agg #[.int .i64 x.kind, .int .i64 x.num, .string x.name, .string x.field, .int .i64 x.l, .int .i64 x.r], .agg #[.int .i64 x.kind, .int .i64 x.num, .string x.name, .string x.field, .int .i64 x.l, .int .i64 x.r]] w fun e w' => e = .returned (.bool true) ∧ Below w.heap.size w w' := by
  go_enter Try.func79, Try.ntmps79
  go_wp2
  go_ret
  exact ⟨rfl, ((Below.refl _ _).alloc (Nat.le_refl _) _).alloc (by show _ ≤ (w.heap.push _).size; simp) _⟩
set_option maxRecDepth 100000 in
set_option maxHeartbeats 3200000 in
theorem eqExprS_zero (a1 a2 : Option Addr) (c1 c2 : Nat) (w : World) : Calls Try.prog 40 #[.slice a1 0 c1, .slice a2 0 c2] w fun e w' => e = .returned (.bool true) ∧ Below w.heap.size w w' := by
  go_enter Try.func40, Try.ntmps40
  go_wp2
  go_loopg [5] 1 (fun k i wr => k = 1 ∧ i = .int .i64 0 ∧ wr = w)
  case atStart => exact ⟨rfl, rfl, rfl⟩
  case round =>
    obtain ⟨rfl, rfl, rfl⟩ := hrel
    go_wp2
    go_ret
    exact ⟨rfl, Below.refl _ _⟩
set_option maxRecDepth 100000 in
set_option maxHeartbeats 3200000 in
theorem eqExprS_row (b1 b2 g1 g2 : Nat) (r1 r2 : Rw) (l : List Ex) (w : World) (h1 : OwnR w b1 50 6 r1 l.length (l.flatMap exL)) (h2 : OwnR w b2 50 6 r2 l.length (l.flatMap exL)) (e1 : r1.a = some ⟨g1, 0, none⟩) (e2 : r2.a = some ⟨g2, 0, none⟩) (hl : l.length ≤ 4294967296) :
    Calls Try.prog 40 #[.slice (some ⟨g1, 0, none⟩) l.length r1.cap, .slice (some ⟨g2, 0, none⟩) l.length r2.cap] w fun e w' => e = .returned (.bool true) ∧ Below w.heap.size w w' := by
  have H1 := hidI h1
  have H2 := hidI h2
  have E1 := hidI e1
  have E2 := hidI e2
  clear h1 h2 e1 e2
  go_enter Try.func40, Try.ntmps40
  go_wp2
  go_loopg [5] l.length (fun k i wr => ∃ j : Nat, i = .int .i64 j ∧ j + k = l.length ∧ Below w.heap.size w wr)
  case atStart => exact ⟨0, rfl, by omega, Below.refl _ _⟩
  case round =>
    obtain ⟨j, rfl, hj, hb⟩ := hrel
    have HB := hidI hb
    clear hb
    by_cases hlt : j < l.length
    · have hlti : (j : Int) < (l.length : Int) := by omega
      obtain ⟨x, hx⟩ := rowsome hlt
      obtain ⟨g', ga, h1⟩ := OwnR.elem (f := exL) (m := 6) (fun _ => rfl) (H1.out.keep fun k g => HB.out.block k (H1.out.typed g).2.1) hx
      obtain rfl : g' = g1 := by have := ga.symm.trans E1.out; simpa using this
      obtain ⟨g', gb, h2⟩ := OwnR.elem (f := exL) (m := 6) (fun _ => rfl) (H2.out.keep fun k g => HB.out.block k (H2.out.typed g).2.1) hx
      obtain rfl : g' = g2 := by have := gb.symm.trans E2.out; simpa using this
      have C0 := hidI (h1 0 (by omega))
      have D0 := hidI (h2 0 (by omega))
      have C1 := hidI (h1 1 (by omega))
      have D1 := hidI (h2 1 (by omega))
      have C2 := hidI (h1 2 (by omega))
      have D2 := hidI (h2 2 (by omega))
      have C3 := hidI (h1 3 (by omega))
      have D3 := hidI (h2 3 (by omega))
      have C4 := hidI (h1 4 (by omega))
      have D4 := hidI (h2 4 (by omega))
      have C5 := hidI (h1 5 (by omega))
      have D5 := hidI (h2 5 (by omega))
      clear h1 h2 ga gb hx
      have cQ : ∀ d os, Calls Try.prog 79 #[.agg #[.int .i64 x.kind, .int .i64 x.num, .string x.name, .string x.field, .int .i64 x.l, .int .i64 x.r], .agg #[.int .i64 x.kind, .int .i64 x.num, .string x.name, .string x.field, .int .i64 x.l, .int .i64 x.r]] (grow (redrawn wr d) os) fun e w'' => e = .returned (.bool true) ∧ ∃ p : Regrown, w'' = grow (redrawn wr p.d) p.os := fun d os => Calls.regrown_of (eqExpr_any x _)
      obtain ⟨j1, hj1⟩ : ∃ j1, j1 = j + 1 := ⟨_, rfl⟩
      have ej : (j : Int) + 1 = (j1 : Int) := by omega
      have HJ := hidI hj1
      clear hj1
      go_wp2
      have k0 := cell_regrown C0.out
      have l0 := cell_regrown D0.out
      have k1 := cell_regrown C1.out
      have l1 := cell_regrown D1.out
      have k2 := cell_regrown C2.out
      have l2 := cell_regrown D2.out
      have k3 := cell_regrown C3.out
      have l3 := cell_regrown D3.out
      have k4 := cell_regrown C4.out
      have l4 := cell_regrown D4.out
      have k5 := cell_regrown C5.out
      have l5 := cell_regrown D5.out
      simp only [Nat.add_zero] at k0 l0
      refine wp_region_quiet_below (by kernel_rfl) (by kernel_rfl) ?_
      repeat (go_big_quiet_step (exact cQ _ _))
      refine wpQuiet_nil ?_
      intro w2 hw'
      obtain ⟨⟨dq, osq⟩, hw''⟩ := hw'
      have HB2 : Hid (Below w.heap.size w w2) := by show Below _ _ _; rw [hw'']; exact HB.out.trans ((below_regrown wr dq osq).mono HB.out.size)
      clear hw'' k0 l0 C0 D0 k1 l1 C1 D1 k2 l2 C2 D2 k3 l3 C3 D3 k4 l4 C4 D4 k5 l5 C5 D5 cQ
      go_wp2
      go_roundg (gk - 1)
      case rel => exact ⟨j1, rfl, by have := HJ.out; omega, HB2.out⟩
      case measure => omega
    · have hlti : ¬ (j : Int) < (l.length : Int) := by omega
      go_wp2
      go_ret
      exact ⟨rfl, HB.out⟩
theorem eqExprS_any (b1 b2 : Nat) (r1 r2 : Rw) (l : List Ex) (w : World) (h1 : OwnR w b1 50 6 r1 l.length (l.flatMap exL)) (h2 : OwnR w b2 50 6 r2 l.length (l.flatMap exL)) (hl : l.length ≤ 4294967296) :
    Calls Try.prog 40 #[.slice r1.a l.length r1.cap, .slice r2.a l.length r2.cap] w fun e w' => e = .returned (.bool true) ∧ Below w.heap.size w w' := by
  by_cases h0 : l.length = 0
  · rw [h0]
    exact eqExprS_zero _ _ _ _ w
  · rcases h1.nil_or with ⟨_, _, e⟩ | ⟨g1, e1⟩
    · exact absurd e h0
    · rcases h2.nil_or with ⟨_, _, e⟩ | ⟨g2, e2⟩
      · exact absurd e h0
      · rw [e1, e2]
        exact eqExprS_row b1 b2 g1 g2 r1 r2 l w h1 h2 e1 e2 hl
end Go.Proofs.Ytaakfnclelcopaa
namespace Go.Proofs.Ytaakfnclelcopaa
open Go.RowKit Go.PlainAid Go.Sort

def SameOut (P : Prop) (e : Ending) : Prop := ∃ b, e = .returned (.bool b) ∧ (b = true ↔ P)
theorem rowsomeE {α : Type} {l : List α} {j : Nat} (h : j < l.length) : ∃ x, l[j]? = some x := ⟨_, List.getElem?_eq_getElem h⟩
theorem take_more {α : Type} {l1 l2 : List α} {j : Nat} {x : α} (h : l1.take j = l2.take j) (h1 : l1[j]? = some x) (h2 : l2[j]? = some x) : l1.take (j + 1) = l2.take (j + 1) := by
  obtain ⟨a, rfl⟩ := List.getElem?_eq_some_iff.1 h1
  obtain ⟨b, hb⟩ := List.getElem?_eq_some_iff.1 h2
  rw [List.take_succ_eq_append_getElem a, List.take_succ_eq_append_getElem b, h, hb]
theorem take_all {α : Type} {l1 l2 : List α} (hl : l1.length = l2.length) (h : l1.take l1.length = l2.take l1.length) : l1 = l2 := by
  rw [List.take_length, hl, List.take_length] at h
  exact h
theorem bytes_eq {a b : ByteArray} (h : (a.toList == b.toList) = true) : a = b := (toList_eq_iff a b).1 h
def eqStr (x y : ByteArray) : Bool := x.toList == y.toList
theorem eqStr_iff {x y : ByteArray} : eqStr x y = true ↔ x = y := ⟨fun h => bytes_eq h, fun h => by rw [h]; exact beq_self_eq_true _⟩
def eqIm (x y : Im) : Bool := x.spec.toList == y.spec.toList && x.first.toList == y.first.toList && x.loc.toList == y.loc.toList
theorem eqIm_iff {x y : Im} : eqIm x y = true ↔ x = y := by
  constructor
  · intro h
    unfold eqIm at h
    simp only [Bool.and_eq_true] at h
    obtain ⟨⟨h0, h1⟩, h2⟩ := h
    cases x
    cases y
    simp only at h0 h1 h2
    congr 1 <;> first | (apply bytes_eq; assumption) | (apply eq_of_beq; assumption)
  · intro h
    rw [h]
    simp [eqIm]
def eqEp (x y : Ep) : Bool := x.kind == y.kind && x.name.toList == y.name.toList && x.loc.toList == y.loc.toList && x.spec.toList == y.spec.toList
theorem eqEp_iff {x y : Ep} : eqEp x y = true ↔ x = y := by
  constructor
  · intro h
    unfold eqEp at h
    simp only [Bool.and_eq_true] at h
    obtain ⟨⟨⟨h0, h1⟩, h2⟩, h3⟩ := h
    cases x
    cases y
    simp only at h0 h1 h2 h3
    congr 1 <;> first | (apply bytes_eq; assumption) | (apply eq_of_beq; assumption)
  · intro h
    rw [h]
    simp [eqEp]
def eqSm (x y : Sm) : Bool := x.kind == y.kind && x.name.toList == y.name.toList && x.expr == y.expr
theorem eqSm_iff {x y : Sm} : eqSm x y = true ↔ x = y := by
  constructor
  · intro h
    unfold eqSm at h
    simp only [Bool.and_eq_true] at h
    obtain ⟨⟨h0, h1⟩, h2⟩ := h
    cases x
    cases y
    simp only at h0 h1 h2
    congr 1 <;> first | (apply bytes_eq; assumption) | (apply eq_of_beq; assumption)
  · intro h
    rw [h]
    simp [eqSm]
def eqEx (x y : Ex) : Bool := x.kind == y.kind && x.num == y.num && x.name.toList == y.name.toList && x.field.toList == y.field.toList && x.l == y.l && x.r == y.r
theorem eqEx_iff {x y : Ex} : eqEx x y = true ↔ x = y := by
  constructor
  · intro h
    unfold eqEx at h
    simp only [Bool.and_eq_true] at h
    obtain ⟨⟨⟨⟨⟨h0, h1⟩, h2⟩, h3⟩, h4⟩, h5⟩ := h
    cases x
    cases y
    simp only at h0 h1 h2 h3 h4 h5
    congr 1 <;> first | (apply bytes_eq; assumption) | (apply eq_of_beq; assumption)
  · intro h
    rw [h]
    simp [eqEx]
end Go.Proofs.Ytaakfnclelcopaa
namespace Go.Proofs.Ytaakfnclelcopaa
open Go.RowKit Go.PlainAid Go.Sort

theorem map_flat (l : List ByteArray) : l.map Value.string = l.flatMap (fun x => [Value.string x]) := by
  induction l with
  | nil => rfl
  | cons x l ih => rw [List.map_cons, List.flatMap_cons, ih]; rfl
def TwoM (w0 : World) (b1 b2 : Nat) (S1 S2 : Sv) (m1 m2 : Md) (w : World) : Prop :=
  w.heap[w0.heap.size]? = some (.cells #[.slice S1.rq.a m1.rq.length S1.rq.cap, .slice S1.im.a m1.im.length S1.im.cap, .slice S1.ep.a m1.ep.length S1.ep.cap, .slice S1.st.a m1.st.length S1.st.cap, .slice S1.ex.a m1.ex.length S1.ex.cap] 36 (0, 0)) ∧ w.heap[w0.heap.size + 1]? = some (.cells #[.slice S2.rq.a m2.rq.length S2.rq.cap, .slice S2.im.a m2.im.length S2.im.cap, .slice S2.ep.a m2.ep.length S2.ep.cap, .slice S2.st.a m2.st.length S2.st.cap, .slice S2.ex.a m2.ex.length S2.ex.cap] 36 (0, 0)) ∧ OwnMd w b1 S1 m1 ∧ OwnMd w b2 S2 m2 ∧ Below w0.heap.size w0 w
theorem TwoM.later {w0 w w' : World} {b1 b2 : Nat} {S1 S2 : Sv} {m1 m2 : Md} (h : TwoM w0 b1 b2 S1 S2 m1 m2 w) (hb : Below w.heap.size w w') : TwoM w0 b1 b2 S1 S2 m1 m2 w' :=
  ⟨(hb.block _ (Array.getElem?_eq_some_iff.1 h.1).1).trans h.1, (hb.block _ (Array.getElem?_eq_some_iff.1 h.2.1).1).trans h.2.1, h.2.2.1.later hb, h.2.2.2.1.later hb, h.2.2.2.2.trans (hb.mono h.2.2.2.2.size)⟩
theorem two_start (w : World) (b1 b2 : Nat) (S1 S2 : Sv) (m1 m2 : Md) (h1 : OwnMd w b1 S1 m1) (h2 : OwnMd w b2 S2 m2) : TwoM w b1 b2 S1 S2 m1 m2 ((w.alloc (.cells #[.slice S1.rq.a m1.rq.length S1.rq.cap, .slice S1.im.a m1.im.length S1.im.cap, .slice S1.ep.a m1.ep.length S1.ep.cap, .slice S1.st.a m1.st.length S1.st.cap, .slice S1.ex.a m1.ex.length S1.ex.cap] 36)).alloc (.cells #[.slice S2.rq.a m2.rq.length S2.rq.cap, .slice S2.im.a m2.im.length S2.im.cap, .slice S2.ep.a m2.ep.length S2.ep.cap, .slice S2.st.a m2.st.length S2.st.cap, .slice S2.ex.a m2.ex.length S2.ex.cap] 36)) := by
  have a1 : Below w.heap.size w (w.alloc (.cells #[.slice S1.rq.a m1.rq.length S1.rq.cap, .slice S1.im.a m1.im.length S1.im.cap, .slice S1.ep.a m1.ep.length S1.ep.cap, .slice S1.st.a m1.st.length S1.st.cap, .slice S1.ex.a m1.ex.length S1.ex.cap] 36)) := (Below.refl _ _).alloc (Nat.le_refl _) _
  have a2 : Below (w.alloc (.cells #[.slice S1.rq.a m1.rq.length S1.rq.cap, .slice S1.im.a m1.im.length S1.im.cap, .slice S1.ep.a m1.ep.length S1.ep.cap, .slice S1.st.a m1.st.length S1.st.cap, .slice S1.ex.a m1.ex.length S1.ex.cap] 36)).heap.size (w.alloc (.cells #[.slice S1.rq.a m1.rq.length S1.rq.cap, .slice S1.im.a m1.im.length S1.im.cap, .slice S1.ep.a m1.ep.length S1.ep.cap, .slice S1.st.a m1.st.length S1.st.cap, .slice S1.ex.a m1.ex.length S1.ex.cap] 36)) ((w.alloc (.cells #[.slice S1.rq.a m1.rq.length S1.rq.cap, .slice S1.im.a m1.im.length S1.im.cap, .slice S1.ep.a m1.ep.length S1.ep.cap, .slice S1.st.a m1.st.length S1.st.cap, .slice S1.ex.a m1.ex.length S1.ex.cap] 36)).alloc (.cells #[.slice S2.rq.a m2.rq.length S2.rq.cap, .slice S2.im.a m2.im.length S2.im.cap, .slice S2.ep.a m2.ep.length S2.ep.cap, .slice S2.st.a m2.st.length S2.st.cap, .slice S2.ex.a m2.ex.length S2.ex.cap] 36)) := (Below.refl _ _).alloc (Nat.le_refl _) _
  refine ⟨(a2.block _ (by rw [alloc_size]; omega)).trans (heap_alloc_new w _), ?_, (h1.later a1).later a2, (h2.later a1).later a2, a1.trans (a2.mono (by rw [alloc_size]; omega))⟩
  have := heap_alloc_new (w.alloc (.cells #[.slice S1.rq.a m1.rq.length S1.rq.cap, .slice S1.im.a m1.im.length S1.im.cap, .slice S1.ep.a m1.ep.length S1.ep.cap, .slice S1.st.a m1.st.length S1.st.cap, .slice S1.ex.a m1.ex.length S1.ex.cap] 36)) (.cells #[.slice S2.rq.a m2.rq.length S2.rq.cap, .slice S2.im.a m2.im.length S2.im.cap, .slice S2.ep.a m2.ep.length S2.ep.cap, .slice S2.st.a m2.st.length S2.st.cap, .slice S2.ex.a m2.ex.length S2.ex.cap] 36)
  rw [alloc_size] at this
  exact this
def MdFew (m : Md) : Prop := m.rq.length ≤ 4294967296 ∧ m.im.length ≤ 4294967296 ∧ m.ep.length ≤ 4294967296 ∧ m.st.length ≤ 4294967296 ∧ m.ex.length ≤ 4294967296
theorem md_eq {a b : Md} (h1 : a.rq = b.rq) (h2 : a.im = b.im) (h3 : a.ep = b.ep) (h4 : a.st = b.st) (h5 : a.ex = b.ex) : a = b := by
  cases a
  cases b
  simp only at h1 h2 h3 h4 h5
  rw [h1, h2, h3, h4, h5]
end Go.Proofs.Ytaakfnclelcopaa
namespace Go.Proofs.Ytaakfnclelcopaa
open Go.RowKit Go.PlainAid Go.Sort

set_option maxRecDepth 100000 in
set_option maxHeartbeats 6400000 in
theorem eqMd_any (b1 b2 : Nat) (S1 S2 : Sv) (m : Md) (w : World) (h1 : OwnMd w b1 S1 m) (h2 : OwnMd w b2 S2 m) (hf : MdFew m) :
    Calls Try.prog 12 #[modD S1 m, modD S2 m] w fun e w' => e = .returned (.bool true) ∧ Below w.heap.size w w' := by
  have H1 := hidI h1
  have H2 := hidI h2
  have HF := hidI hf
  clear h1 h2 hf
  unfold modD
  go_enter Try.func12, Try.ntmps12
  go_upto_region 1 with fail
  refine world_anyI (R := TwoM w b1 b2 S1 S2 m m) (two_start w b1 b2 S1 S2 m m H1.out H2.out) ?_
  clear H1 H2
  intro w0 h
  have T0 := hidI h
  clear h
  obtain ⟨c0, c1, c2, c3, c4, cf⟩ := five_of T0.out.1
  obtain ⟨d0, d1, d2, d3, d4, df⟩ := five_of T0.out.2.1
  go_wp2_with fail
  refine (eqStringS_any b1 b2 S1.rq S2.rq m.rq w0 (by rw [← map_flat]; exact T0.out.2.2.1.rq) (by rw [← map_flat]; exact T0.out.2.2.2.1.rq) HF.out.1).mono ?_
  rintro e w1 ⟨rfl, hb⟩
  have T1 := hidI (T0.out.later hb)
  clear hb c0 c1 c2 c3 c4 cf d0 d1 d2 d3 d4 df
  obtain ⟨c0, c1, c2, c3, c4, cf⟩ := five_of T1.out.1
  obtain ⟨d0, d1, d2, d3, d4, df⟩ := five_of T1.out.2.1
  go_wp2_with fail
  refine (eqImpS_any b1 b2 S1.im S2.im m.im w1 T1.out.2.2.1.im T1.out.2.2.2.1.im HF.out.2.1).mono ?_
  rintro e w2 ⟨rfl, hb⟩
  have T2 := hidI (T1.out.later hb)
  clear hb c0 c1 c2 c3 c4 cf d0 d1 d2 d3 d4 df
  obtain ⟨c0, c1, c2, c3, c4, cf⟩ := five_of T2.out.1
  obtain ⟨d0, d1, d2, d3, d4, df⟩ := five_of T2.out.2.1
  go_wp2_with fail
  refine (eqExpS_any b1 b2 S1.ep S2.ep m.ep w2 T2.out.2.2.1.ep T2.out.2.2.2.1.ep HF.out.2.2.1).mono ?_
  rintro e w3 ⟨rfl, hb⟩
  have T3 := hidI (T2.out.later hb)
  clear hb c0 c1 c2 c3 c4 cf d0 d1 d2 d3 d4 df
  obtain ⟨c0, c1, c2, c3, c4, cf⟩ := five_of T3.out.1
  obtain ⟨d0, d1, d2, d3, d4, df⟩ := five_of T3.out.2.1
  go_wp2_with fail
  refine (eqStmtS_any b1 b2 S1.st S2.st m.st w3 T3.out.2.2.1.st T3.out.2.2.2.1.st HF.out.2.2.2.1).mono ?_
  rintro e w4 ⟨rfl, hb⟩
  have T4 := hidI (T3.out.later hb)
  clear hb c0 c1 c2 c3 c4 cf d0 d1 d2 d3 d4 df
  obtain ⟨c0, c1, c2, c3, c4, cf⟩ := five_of T4.out.1
  obtain ⟨d0, d1, d2, d3, d4, df⟩ := five_of T4.out.2.1
  go_wp2_with fail
  refine (eqExprS_any b1 b2 S1.ex S2.ex m.ex w4 T4.out.2.2.1.ex T4.out.2.2.2.1.ex HF.out.2.2.2.2).mono ?_
  rintro e w5 ⟨rfl, hb⟩
  have T5 := hidI (T4.out.later hb)
  clear hb c0 c1 c2 c3 c4 cf d0 d1 d2 d3 d4 df
  obtain ⟨c0, c1, c2, c3, c4, cf⟩ := five_of T5.out.1
  obtain ⟨d0, d1, d2, d3, d4, df⟩ := five_of T5.out.2.1
  go_wp2
  go_ret
  exact ⟨rfl, T5.out.2.2.2.2⟩
end Go.Proofs.Ytaakfnclelcopaa
namespace Go.Proofs.Ytaakfnclelcopaa
open Go.RowKit Go.PlainAid Go.Sort

set_option maxRecDepth 100000 in
set_option maxHeartbeats 3200000 in
theorem uses_spec (V : Sv) (m : Md) (w : World) (hr : MdR w V m) (hl : m.ex.length ≤ 1048576 ∧ m.st.length ≤ 1048576 ∧ m.ep.length ≤ 1048576) :
    Calls Try.prog 8 #[modD V m] w (UseOut w (useAll m)) := by
  have HR := hidI hr
  have HL := hidI hl
  clear hr hl
  unfold modD
  go_enter Try.func8, Try.ntmps8
  go_upto_region 2 with fail
  refine world_anyI (R := fun W => UW w (.cells #[.slice V.rq.a m.rq.length V.rq.cap, .slice V.im.a m.im.length V.im.cap, .slice V.ep.a m.ep.length V.ep.cap, .slice V.st.a m.st.length V.st.cap, .slice V.ex.a m.ex.length V.ex.cap] 36) (w.heap.size + 1) 0 0 [] W) (UW.start w _) ?_
  intro w1 hu
  have HU := hidI hu
  clear hu
  go_wp2
  go_loopw [3, 4] (fun o i wr => ∃ j g n cap : Nat, j ≤ m.ex.length ∧ n ≤ 0 + j ∧ o = .slice (some ⟨g, 0, none⟩) n cap ∧ i = .int .i64 j ∧ Hid (UW w (.cells #[.slice V.rq.a m.rq.length V.rq.cap, .slice V.im.a m.im.length V.im.cap, .slice V.ep.a m.ep.length V.ep.cap, .slice V.st.a m.st.length V.st.cap, .slice V.ex.a m.ex.length V.ex.cap] 36) g n cap (putIf (fun x => namedB x.kind) (fun x => x.name) (m.ex.take j) []) wr)) (fun _ i _ => (m.ex.length - intOf i).toNat)
  case atStart => exact ⟨0, _, _, _, Nat.zero_le _, Nat.le_refl _, rfl, rfl, HU⟩
  case round =>
    obtain ⟨j, g, n, cap, hj, hnj, rfl, rfl, HW⟩ := hrel
    clear HU
    have hlr : m.ex.length ≤ 1048576 := by have := HL.out; omega
    obtain ⟨c0, c1, c2, c3, c4⟩ := five_at HW.out.box
    by_cases hlt : j < m.ex.length
    · obtain ⟨x, hx⟩ : ∃ x, m.ex[j]? = some x := ⟨_, List.getElem?_eq_getElem hlt⟩
      obtain ⟨b, off, ha, hc⟩ := (HR.out.later HW.out.bel).ex.get hx
      rw [ha] at c4
      have d0 := hc 0 _ rfl
      have d1 := hc 2 _ rfl
      simp only [Nat.add_zero] at d0
      have HS := hidI (putIf_snoc (p := (fun x => namedB x.kind)) (f := (fun x => x.name)) hx [])
      clear hc ha hx
      go_wp2_with fail
      refine (named_spec x.kind _).mono ?_
      rintro e w2 ⟨rfl, hw⟩
      rw [hw]
      clear hw w2
      cases hk : namedB x.kind with
      | true =>
        go_wp2_with fail
        refine (l8Put_spec g n cap (w.heap.size + 1) _ x.name _ HW.out.own (by have := HL.out; omega) HW.out.siz).mono ?_
        rintro e w3 ⟨g', n', cap', rfl, ho, hb⟩
        have hn' : n' ≤ n + 1 := by have h1 := ho.2; have h2 := HW.out.own.2; rw [h1, h2]; exact putT_len _ _
        have H3 := hidI (HW.out.put hb ho)
        clear ho hb
        go_wp2
        go_roundw
        case rel => exact ⟨j + 1, g', n', cap', by omega, by omega, rfl, by go_num, by show UW _ _ _ _ _ _ _; rw [HS.out, if_pos hk]; exact H3.out⟩
        case measure => simp [intOf]; omega
      | false =>
        go_wp2
        go_roundw
        case rel => exact ⟨j + 1, g, n, cap, by omega, by omega, rfl, by go_num, by show UW _ _ _ _ _ _ _; rw [HS.out, if_neg (by rw [hk]; decide)]; exact HW.out⟩
        case measure => simp [intOf]; omega
    · obtain rfl : j = m.ex.length := by omega
      rw [List.take_length] at HW
      have HU : Hid (UW w (.cells #[.slice V.rq.a m.rq.length V.rq.cap, .slice V.im.a m.im.length V.im.cap, .slice V.ep.a m.ep.length V.ep.cap, .slice V.st.a m.st.length V.st.cap, .slice V.ex.a m.ex.length V.ex.cap] 36) g n cap (useEx m) wr) := HW
      clear HW
      have hnj : n ≤ m.ex.length + 0 := by omega
      go_wp2
      go_loopw [3, 5] (fun o i wr => ∃ j g n cap : Nat, j ≤ m.st.length ∧ n ≤ m.ex.length + j ∧ o = .slice (some ⟨g, 0, none⟩) n cap ∧ i = .int .i64 j ∧ Hid (UW w (.cells #[.slice V.rq.a m.rq.length V.rq.cap, .slice V.im.a m.im.length V.im.cap, .slice V.ep.a m.ep.length V.ep.cap, .slice V.st.a m.st.length V.st.cap, .slice V.ex.a m.ex.length V.ex.cap] 36) g n cap (putIf (fun x => x.kind == 3) (fun x => x.name) (m.st.take j) (useEx m)) wr)) (fun _ i _ => (m.st.length - intOf i).toNat)
      case atStart => exact ⟨0, _, _, _, Nat.zero_le _, hnj, rfl, rfl, HU⟩
      case round =>
        obtain ⟨j, g, n, cap, hj, hnj, rfl, rfl, HW⟩ := hrel
        clear HU
        have hlr : m.st.length ≤ 1048576 := by have := HL.out; omega
        obtain ⟨c0, c1, c2, c3, c4⟩ := five_at HW.out.box
        by_cases hlt : j < m.st.length
        · obtain ⟨x, hx⟩ : ∃ x, m.st[j]? = some x := ⟨_, List.getElem?_eq_getElem hlt⟩
          obtain ⟨b, off, ha, hc⟩ := (HR.out.later HW.out.bel).st.get hx
          rw [ha] at c3
          have d0 := hc 0 _ rfl
          have d1 := hc 1 _ rfl
          simp only [Nat.add_zero] at d0
          have HS := hidI (putIf_snoc (p := (fun x => x.kind == 3)) (f := (fun x => x.name)) hx (useEx m))
          clear hc ha hx
          cases hk : x.kind == 3 with
          | true =>
            go_wp2_with fail
            refine (l8Put_spec g n cap (w.heap.size + 1) _ x.name _ HW.out.own (by have := HL.out; omega) HW.out.siz).mono ?_
            rintro e w3 ⟨g', n', cap', rfl, ho, hb⟩
            have hn' : n' ≤ n + 1 := by have h1 := ho.2; have h2 := HW.out.own.2; rw [h1, h2]; exact putT_len _ _
            have H3 := hidI (HW.out.put hb ho)
            clear ho hb
            go_wp2
            go_roundw
            case rel => exact ⟨j + 1, g', n', cap', by omega, by omega, rfl, by go_num, by show UW _ _ _ _ _ _ _; rw [HS.out, if_pos hk]; exact H3.out⟩
            case measure => simp [intOf]; omega
          | false =>
            go_wp2
            go_roundw
            case rel => exact ⟨j + 1, g, n, cap, by omega, by omega, rfl, by go_num, by show UW _ _ _ _ _ _ _; rw [HS.out, if_neg (by rw [hk]; decide)]; exact HW.out⟩
            case measure => simp [intOf]; omega
        · obtain rfl : j = m.st.length := by omega
          rw [List.take_length] at HW
          have HU : Hid (UW w (.cells #[.slice V.rq.a m.rq.length V.rq.cap, .slice V.im.a m.im.length V.im.cap, .slice V.ep.a m.ep.length V.ep.cap, .slice V.st.a m.st.length V.st.cap, .slice V.ex.a m.ex.length V.ex.cap] 36) g n cap (useSt m) wr) := HW
          clear HW
          have hnj : n ≤ m.ex.length + m.st.length + 0 := by omega
          go_wp2
          go_loopw [3, 6] (fun o i wr => ∃ j g n cap : Nat, j ≤ m.ep.length ∧ n ≤ m.ex.length + m.st.length + j ∧ o = .slice (some ⟨g, 0, none⟩) n cap ∧ i = .int .i64 j ∧ Hid (UW w (.cells #[.slice V.rq.a m.rq.length V.rq.cap, .slice V.im.a m.im.length V.im.cap, .slice V.ep.a m.ep.length V.ep.cap, .slice V.st.a m.st.length V.st.cap, .slice V.ex.a m.ex.length V.ex.cap] 36) g n cap (putIf (fun x => x.kind == 1) (fun x => x.loc) (m.ep.take j) (useSt m)) wr)) (fun _ i _ => (m.ep.length - intOf i).toNat)
          case atStart => exact ⟨0, _, _, _, Nat.zero_le _, hnj, rfl, rfl, HU⟩
          case round =>
            obtain ⟨j, g, n, cap, hj, hnj, rfl, rfl, HW⟩ := hrel
            clear HU
            have hlr : m.ep.length ≤ 1048576 := by have := HL.out; omega
            obtain ⟨c0, c1, c2, c3, c4⟩ := five_at HW.out.box
            by_cases hlt : j < m.ep.length
            · obtain ⟨x, hx⟩ : ∃ x, m.ep[j]? = some x := ⟨_, List.getElem?_eq_getElem hlt⟩
              obtain ⟨b, off, ha, hc⟩ := (HR.out.later HW.out.bel).ep.get hx
              rw [ha] at c2
              have d0 := hc 0 _ rfl
              have d1 := hc 2 _ rfl
              simp only [Nat.add_zero] at d0
              have HS := hidI (putIf_snoc (p := (fun x => x.kind == 1)) (f := (fun x => x.loc)) hx (useSt m))
              clear hc ha hx
              cases hk : x.kind == 1 with
              | true =>
                go_wp2_with fail
                refine (l8Put_spec g n cap (w.heap.size + 1) _ x.loc _ HW.out.own (by have := HL.out; omega) HW.out.siz).mono ?_
                rintro e w3 ⟨g', n', cap', rfl, ho, hb⟩
                have hn' : n' ≤ n + 1 := by have h1 := ho.2; have h2 := HW.out.own.2; rw [h1, h2]; exact putT_len _ _
                have H3 := hidI (HW.out.put hb ho)
                clear ho hb
                go_wp2
                go_roundw
                case rel => exact ⟨j + 1, g', n', cap', by omega, by omega, rfl, by go_num, by show UW _ _ _ _ _ _ _; rw [HS.out, if_pos hk]; exact H3.out⟩
                case measure => simp [intOf]; omega
              | false =>
                go_wp2
                go_roundw
                case rel => exact ⟨j + 1, g, n, cap, by omega, by omega, rfl, by go_num, by show UW _ _ _ _ _ _ _; rw [HS.out, if_neg (by rw [hk]; decide)]; exact HW.out⟩
                case measure => simp [intOf]; omega
            · obtain rfl : j = m.ep.length := by omega
              rw [List.take_length] at HW
              go_wp2
              go_ret
              exact ⟨g, n, cap, rfl, ownS_low HW.out.own (Nat.le_succ _), HW.out.bel⟩
set_option maxRecDepth 100000 in
set_option maxHeartbeats 3200000 in
theorem unused_spec (V : Sv) (m : Md) (w : World) (hr : MdR w V m) (hl : m.ex.length ≤ 1048576 ∧ m.st.length ≤ 1048576 ∧ m.ep.length ≤ 1048576 ∧ m.im.length ≤ 1048576) :
    Calls Try.prog 16 #[modD V m] w (UseOut w (unusedL m)) := by
  have HR := hidI hr
  have HL := hidI hl
  clear hr hl
  unfold modD
  go_enter Try.func16, Try.ntmps16
  go_upto_region 1 with fail
  refine world_anyI (R := fun W => W.heap[w.heap.size]? = some (.cells #[.slice V.rq.a m.rq.length V.rq.cap, .slice V.im.a m.im.length V.im.cap, .slice V.ep.a m.ep.length V.ep.cap, .slice V.st.a m.st.length V.st.cap, .slice V.ex.a m.ex.length V.ex.cap] 36 (0, 0)) ∧ Below w.heap.size w W ∧ w.heap.size + 1 ≤ W.heap.size) ⟨heap_alloc_new w _, (Below.refl _ _).alloc (Nat.le_refl _) _, by rw [alloc_size]; exact Nat.le_refl _⟩ ?_
  rintro w1 ⟨hx, hb, hs⟩
  have X1 := hidI hx
  have B1 := hidI hb
  have S1 := hidI hs
  clear hx hb hs
  obtain ⟨c0, c1, c2, c3, c4⟩ := five_at X1.out
  go_wp2_with fail
  refine (uses_spec V m w1 (HR.out.later B1.out) ⟨HL.out.1, HL.out.2.1, HL.out.2.2.1⟩).mono ?_
  rintro e w2 ⟨gu, nu, capu, rfl, hou, hb⟩
  have hnu : nu ≤ 4000000 := by have h1 := hou.2; have h2 := use_len m; have := HL.out; omega
  have U2 := hidI (ownS_low hou S1.out)
  have X2 := hidI ((hb.block _ (Array.getElem?_eq_some_iff.1 X1.out).1).trans X1.out)
  have B2 := hidI (B1.out.trans (hb.mono B1.out.size))
  have S2 := hidI (Nat.le_trans S1.out hb.size)
  clear hou hb X1 B1 S1 c0 c1 c2 c3 c4
  go_upto_region 3 with fail
  refine world_anyI (R := fun W => UW w (.cells #[.slice V.rq.a m.rq.length V.rq.cap, .slice V.im.a m.im.length V.im.cap, .slice V.ep.a m.ep.length V.ep.cap, .slice V.st.a m.st.length V.st.cap, .slice V.ex.a m.ex.length V.ex.cap] 36) w2.heap.size 0 0 [] W ∧ OwnS W (w.heap.size + 1) 9 gu nu capu (useAll m)) ⟨⟨(heap_alloc_old _ _ (Array.getElem?_eq_some_iff.1 X2.out).1).trans X2.out, B2.out.alloc B2.out.size _, ⟨World.ownsRow_lit w2 #[] 0 S2.out (by unfold maxLen; omega) rfl, rfl⟩, by rw [alloc_size]; have := S2.out; omega⟩, ownS_later U2.out ((Below.refl _ _).alloc (Nat.le_refl _) _)⟩ ?_
  rintro w3 ⟨hu, ho⟩
  have HU := hidI hu
  have HO := hidI ho
  clear hu ho X2 B2 S2 U2
  go_wp2
  go_loopw [4, 5] (fun o i wr => ∃ j g n cap : Nat, j ≤ m.im.length ∧ n ≤ j ∧ o = .slice (some ⟨g, 0, none⟩) n cap ∧ i = .int .i64 j ∧ Hid (UW w (.cells #[.slice V.rq.a m.rq.length V.rq.cap, .slice V.im.a m.im.length V.im.cap, .slice V.ep.a m.ep.length V.ep.cap, .slice V.st.a m.st.length V.st.cap, .slice V.ex.a m.ex.length V.ex.cap] 36) g n cap (putIf (fun x => !inT (useAll m) x.loc) (fun x => x.loc) (m.im.take j) []) wr) ∧ Hid (OwnS wr (w.heap.size + 1) 9 gu nu capu (useAll m))) (fun _ i _ => (m.im.length - intOf i).toNat)
  case atStart => exact ⟨0, _, _, _, Nat.zero_le _, Nat.le_refl _, rfl, rfl, HU, HO⟩
  case round =>
    obtain ⟨j, g, n, cap, hj, hnj, rfl, rfl, HW, HQ⟩ := hrel
    clear HU HO
    have hlr : m.im.length ≤ 1048576 := by have := HL.out; omega
    obtain ⟨c0, c1, c2, c3, c4⟩ := five_at HW.out.box
    by_cases hlt : j < m.im.length
    · obtain ⟨x, hx⟩ : ∃ x, m.im[j]? = some x := ⟨_, List.getElem?_eq_getElem hlt⟩
      obtain ⟨b, off, ha, hc⟩ := (HR.out.later HW.out.bel).im.get hx
      rw [ha] at c1
      have d2 := hc 2 _ rfl
      have HS := hidI (putIf_snoc (p := (fun x => !inT (useAll m) x.loc)) (f := (fun x => x.loc)) hx [])
      clear hc ha hx
      go_wp2_with fail
      refine (l6In_own gu nu capu (w.heap.size + 1) (useAll m) x.loc _ HQ.out (by omega)).mono ?_
      rintro e w4 ⟨rfl, hw⟩
      rw [hw]
      clear hw w4
      cases hk : inT (useAll m) x.loc with
      | true =>
        go_wp2
        go_roundw
        case rel => exact ⟨j + 1, g, n, cap, by omega, by omega, rfl, by go_num, by show UW _ _ _ _ _ _ _; rw [HS.out, if_neg (by rw [hk]; decide)]; exact HW.out, HQ⟩
        case measure => simp [intOf]; omega
      | false =>
        go_wp2_with fail
        refine (l8Put_spec g n cap (w.heap.size + 1) _ x.loc _ HW.out.own (by omega) HW.out.siz).mono ?_
        rintro e w5 ⟨g', n', cap', rfl, ho, hb⟩
        have hn' : n' ≤ n + 1 := by have h1 := ho.2; have h2 := HW.out.own.2; rw [h1, h2]; exact putT_len _ _
        have H5 := hidI (HW.out.put hb ho)
        have Q5 := hidI (ownS_later HQ.out hb)
        clear ho hb
        go_wp2
        go_roundw
        case rel => exact ⟨j + 1, g', n', cap', by omega, by omega, rfl, by go_num, by show UW _ _ _ _ _ _ _; rw [HS.out, if_pos (by rw [hk]; rfl)]; exact H5.out, Q5⟩
        case measure => simp [intOf]; omega
    · obtain rfl : j = m.im.length := by omega
      rw [List.take_length] at HW
      go_wp2
      go_ret
      exact ⟨g, n, cap, rfl, ownS_low HW.out.own (Nat.le_succ _), HW.out.bel⟩
end Go.Proofs.Ytaakfnclelcopaa
