/-
  What impl.copyFiles answers: the walk.
  What impl.putRow answers at files: the walk.
  What impl.PutFile answers: the walk.
-/
import Derived.Test.YtdbpknmoacjodaaCfRowsCat
import Derived.Test.YtdbpknmoacjodaaCfCopyFile
import Derived.Test.YtdbpknmoacjodaaCfSpecPutFile
import Derived.Test.YtdbpknmoacjodaaCfImplReadFiles
namespace Go.Proofs.Ytdbpknmoacjodaa
open Go.RowKit Go.PlainAid Go.Sort

theorem PutW.grow2 {w wr W : World} {e : TypeId} {g n cap gx g' cap' : Nat} {out ys : List Fl} {x : Fl} (h : PutW w wr e g n cap out gx x) (ho : OwnFl W w.heap.size e g' (n + 1) cap' ys) (k : wr.grownBy W (some g)) (hg : g' = g ∨ wr.heap.size ≤ g') : PutW w W e g' (n + 1) cap' ys gx x := by
  have hx := (Array.getElem?_eq_some_iff.1 h.box).1
  refine ⟨ho, (k.block gx hx (fun e => h.ne (Option.some.inj e).symm)).trans h.box, ?_, h.bel.grown k h.bel.size (fun j hj => by cases hj; exact (ownFl_blk h.out).1)⟩
  rcases hg with rfl | hg
  · exact h.ne
  · omega
theorem PutW.alloc {w wr : World} {e : TypeId} {g n cap gx : Nat} {out : List Fl} {x : Fl} (h : PutW w wr e g n cap out gx x) (o : Obj) : PutW w (wr.alloc o) e g n cap out gx x := h.later ((Below.refl _ _).alloc (Nat.le_refl _) _)
theorem ownFl_has {w : World} {base g n cap : Nat} {e : TypeId} {fs : List Fl} (h : OwnFl w base e g n cap fs) {j : Nat} {x : Fl} (hj : fs[j]? = some x) : w.cell? ⟨g, j * 2, none⟩ = some (.string x.1) ∧ w.cell? ⟨g, j * 2 + 1, none⟩ = some (.string x.2) := by
  have hl : j < n := by rw [h.2]; exact (List.getElem?_eq_some_iff.1 hj).1
  constructor
  · rw [h.1.cellAt _ (by omega)]
    exact fl_flat fs j 0 x (by omega) hj
  · rw [h.1.cellAt _ (by omega)]
    exact fl_flat fs j 1 x (by omega) hj
theorem take_fls {len k : Nat} {Pt Tx : Nat → ByteArray} (h : k < len) : (flsOf len Pt Tx).take (k + 1) = (flsOf len Pt Tx).take k ++ [(Pt k, Tx k)] := take_snoc (flsOf_at h)
theorem files_row {w : World} {a : Option Addr} {g len : Nat} {Pt Tx : Nat → ByteArray} (h : FilesAt w a g 0 len Pt Tx) : RowAt w a flL 2 (flsOf len Pt Tx) := by
  by_cases h0 : len = 0
  · exact .inl (List.eq_nil_of_length_eq_zero (by rw [flsOf_len]; exact h0))
  · refine .inr ⟨g, 0, h.addr (by omega), h.lt (by omega), fun j x hx i v hv => ?_⟩
    have hj : j < len := by have := (List.getElem?_eq_some_iff.1 hx).1; rw [flsOf_len] at this; exact this
    rw [flsOf_at hj] at hx
    obtain rfl := Option.some.inj hx
    match i, hv with
    | 0, hv =>
      cases hv
      have := h.path j hj
      rw [Nat.zero_add] at this ⊢
      exact this
    | 1, hv =>
      cases hv
      have := h.text j hj
      rw [Nat.zero_add] at this ⊢
      exact this
set_option maxRecDepth 100000 in
set_option maxHeartbeats 1600000 in
theorem copyFiles_any (a : Option Addr) (g len cap : Nat) (Pt Tx : Nat → ByteArray) (w : World) (hf : FilesAt w a g 0 len Pt Tx) (hl : len ≤ 1000) (hp : ∀ j, j < len → (Pt j).size ≤ 1048576) (ht : ∀ j, j < len → (Tx j).size ≤ 1048576) :
    Calls Try.prog 69 #[.slice a len cap] w fun e w' => ∃ g' cap', e = .returned (.slice (some ⟨g', 0, none⟩) len cap') ∧ OwnFl w' w.heap.size 52 g' len cap' (flsOf len Pt Tx) ∧ Below w.heap.size w w' := by
  have HC := hidI (copyRowsFile_any a cap (flsOf len Pt Tx) w (files_row hf) (by rw [flsOf_len]; omega) fun x hx => by
    obtain ⟨j, hj⟩ := List.getElem?_of_mem hx
    have hlt : j < len := by have := (List.getElem?_eq_some_iff.1 hj).1; rw [flsOf_len] at this; exact this
    rw [flsOf_at hlt] at hj
    obtain rfl := Option.some.inj hj
    have h1 := hp j hlt
    have h2 := ht j hlt
    exact ⟨by show (Pt j).size ≤ _; omega, by show (Tx j).size ≤ _; omega⟩)
  rw [flsOf_len] at HC
  clear hf hp ht
  go_enter Try.func69, Try.ntmps69
  go_wp2_with fail
  refine HC.out.mono ?_
  rintro e w1 ⟨g', cap', rfl, ho, hb⟩
  have HO := hidI ho
  have HB := hidI hb
  clear ho hb HC
  go_wp2
  go_ret
  exact ⟨g', cap', rfl, HO.out, HB.out⟩
end Go.Proofs.Ytdbpknmoacjodaa
namespace Go.Proofs.Ytdbpknmoacjodaa
open Go.RowKit Go.PlainAid Go.Sort

theorem boxF_later {w W : World} {gx : Nat} {o : Obj} (h : w.heap[gx]? = some o) (hb : Below w.heap.size w W) : W.heap[gx]? = some o := (hb.block gx (Array.getElem?_eq_some_iff.1 h).1).trans h
theorem addF_at (b o j : Nat) : (⟨b, o, none⟩ : Addr).add j = ⟨b, o + j, none⟩ := by simp [Addr.add]
theorem fl_cells {w : World} {b off : Nat} {fs : List Fl} (h : ∀ j x, fs[j]? = some x → w.cell? ⟨b, off + j * 2, none⟩ = some (.string x.1) ∧ w.cell? ⟨b, off + j * 2 + 1, none⟩ = some (.string x.2)) : ∀ i u, (fs.flatMap flL)[i]? = some u → w.cell? ((⟨b, off, none⟩ : Addr).add i) = some u := by
  intro i u hu
  rw [addF_at]
  have hi : i < fs.length * 2 := by rw [← fl_flat_len]; exact (List.getElem?_eq_some_iff.1 hu).1
  have hj : i / 2 < fs.length := by omega
  have e := fl_flat fs (i / 2) (i % 2) fs[i / 2] (by omega) (List.getElem?_eq_getElem hj)
  rw [show i / 2 * 2 + i % 2 = i from by omega, hu] at e
  have h1 := h (i / 2) _ (List.getElem?_eq_getElem hj)
  rcases Nat.mod_two_eq_zero_or_one i with h0 | h0
  · rw [h0] at e
    cases e
    rw [show off + i = off + i / 2 * 2 from by omega]
    exact h1.1
  · rw [h0] at e
    cases e
    rw [show off + i = off + i / 2 * 2 + 1 from by omega]
    exact h1.2
theorem fl_one {fs : List Fl} : ∀ u ∈ fs.flatMap flL, u.oneCell' = true := by
  intro u hu
  obtain ⟨x, _, hx⟩ := List.mem_flatMap.1 hu
  simp [flL] at hx
  rcases hx with rfl | rfl <;> rfl
theorem rowF_part {w : World} {a : Option Addr} {g len : Nat} {Pt Tx : Nat → ByteArray} (hf : FilesAt w a g 0 len Pt Tx) (ad : Addr) (k n cap : Nat) (hk : k + n ≤ len) (had : 0 < n → ad = ⟨g, k * 2, none⟩) : (RowV.mk ad n cap ((((flsOf len Pt Tx).drop k).take n).flatMap flL)).At w 2 := by
  have hlen : (((flsOf len Pt Tx).drop k).take n).length = n := by rw [List.length_take, List.length_drop, flsOf_len]; omega
  refine ⟨by rw [fl_flat_len, hlen], ?_, fl_one⟩
  rcases Nat.eq_zero_or_pos n with h0 | h0
  · subst h0
    intro j u hj
    rw [List.take_zero] at hj
    cases hj
  · rw [had h0]
    refine fl_cells fun j x hx => ?_
    have hj : j < n := by rw [← hlen]; exact (List.getElem?_eq_some_iff.1 hx).1
    rw [List.getElem?_take_of_lt hj, List.getElem?_drop, flsOf_at (by omega)] at hx
    cases hx
    have h1 := hf.path (k + j) (by omega)
    have h2 := hf.text (k + j) (by omega)
    rw [Nat.zero_add, Nat.add_mul] at h1 h2
    exact ⟨h1, h2⟩
theorem rowF_box {w : World} {gx : Nat} {e : TypeId} {p t : ByteArray} (h : w.heap[gx]? = some (.cells #[.string p, .string t] e (0, 0))) : (RowV.mk ⟨gx, 0, none⟩ 1 1 (flL (p, t))).At w 2 := by
  refine ⟨rfl, fun j u hj => ?_, fun u hu => by simp [flL] at hu; rcases hu with rfl | rfl <;> rfl⟩
  rw [addF_at, Nat.zero_add]
  match j, hj with
  | 0, hj => cases hj; simp [World.cell?, h]
  | 1, hj => cases hj; simp [World.cell?, h]
theorem ris_mono {len : Nat} {Pt Tx : Nat → ByteArray} (hb : filesB len Pt Tx = true) (q : ByteArray) : Mono len Pt q := by
  intro a b hab hbl h
  rcases Nat.eq_or_lt_of_le hab with rfl | hlt
  · exact h
  · have h1 := ris_of (P := Pt) (len := len) (fun k h0 hk => ((filesB_iff.1 hb).2 k hk).2 h0) a b hlt hbl
    exact less_trans _ _ _ h1 h
theorem put_found {len : Nat} {Pt Tx : Nat → ByteArray} {x : Fl} {k : Nat} {b : Bool} (hb : filesB len Pt Tx = true) (h : FoundAt len Pt x.1 k b) : putFs (flsOf len Pt Tx) x = (flsOf len Pt Tx).take k ++ x :: (flsOf len Pt Tx).drop (if b then k + 1 else k) := by
  obtain ⟨hk, h1, h2, h3⟩ := h
  have hA : Ahd x ((flsOf len Pt Tx).take k) := fun y hy => by
    obtain ⟨j, hj, rfl⟩ := List.getElem_of_mem hy
    rw [List.length_take, flsOf_len] at hj
    have e : ((flsOf len Pt Tx).take k)[j]? = some (Pt j, Tx j) := by rw [List.getElem?_take_of_lt (by omega), flsOf_at (by omega)]
    rw [(List.getElem?_eq_some_iff.1 e).2]
    exact h1 j (by omega)
  have big : ∀ j, k ≤ j → j < len → Pt j ≠ x.1 → Op.bytesLess x.1.toList (Pt j).toList = true := fun j hj hl hne => by
    rcases less_tri (Pt j).toList x.1.toList with h | h | h
    · have := h2 j hj hl
      unfold lessT at this
      rw [h] at this
      cases this
    · exact absurd ((toList_eq_iff _ _).1 (by rw [h]; exact beq_self_eq_true _)) hne
    · exact h
  have rs : ∀ i j, i < j → j < len → Op.bytesLess (Pt i).toList (Pt j).toList = true := ris_of (P := Pt) (len := len) (fun k h0 hk => ((filesB_iff.1 hb).2 k hk).2 h0)
  have hB : ∀ m, (∀ j, m ≤ j → j < len → Op.bytesLess x.1.toList (Pt j).toList = true) → Bhd x ((flsOf len Pt Tx).drop m) := fun m hm y hy => by
    obtain ⟨j, hj, rfl⟩ := List.getElem_of_mem hy
    rw [List.length_drop, flsOf_len] at hj
    have e : ((flsOf len Pt Tx).drop m)[j]? = some (Pt (m + j), Tx (m + j)) := by rw [List.getElem?_drop, flsOf_at (by omega)]
    rw [(List.getElem?_eq_some_iff.1 e).2]
    exact hm (m + j) (by omega) (by omega)
  cases b with
  | true =>
    obtain ⟨hkl, hpk⟩ := h3.1 rfl
    have hd : (flsOf len Pt Tx).drop k = [(Pt k, Tx k)] ++ (flsOf len Pt Tx).drop (k + 1) := by
      have hk' : k < (flsOf len Pt Tx).length := by rw [flsOf_len]; exact hkl
      rw [List.drop_eq_getElem_cons hk', (List.getElem?_eq_some_iff.1 (flsOf_at (Pt := Pt) (Tx := Tx) hkl)).2]
      rfl
    have e := put_part (M := [(Pt k, Tx k)]) hA (hB (k + 1) fun j hj hl => by rw [← hpk]; exact rs k j (by omega) hl) (.inr ⟨Tx k, by rw [hpk]⟩)
    rw [← hd, List.take_append_drop] at e
    exact e
  | false =>
    have e := put_part (M := []) hA (hB k fun j hj hl => big j hj hl fun hp => by
      rcases Nat.eq_or_lt_of_le hj with rfl | hlt
      · have := h3.2 ⟨hl, hp⟩
        cases this
      · have h4 := rs k j hlt hl
        rw [hp] at h4
        have := h2 k (Nat.le_refl _) (by omega)
        unfold lessT at this
        rw [h4] at this
        cases this) (.inl rfl)
    rw [List.nil_append, List.take_append_drop] at e
    exact e
theorem cat3_rows {W : World} {size : Nat} {r1 r2 r3 : RowV} (h1 : r1.At W size) (h2 : r2.At W size) (h3 : r3.At W size) : ∀ r ∈ [r1, r2, r3], r.At W size := by
  intro r hr
  rcases List.mem_cons.1 hr with rfl | hr
  · exact h1
  · rcases List.mem_cons.1 hr with rfl | hr
    · exact h2
    · rcases List.mem_cons.1 hr with rfl | hr
      · exact h3
      · cases hr
theorem ownV_fl {w : World} {base n g cap : Nat} {e : TypeId} {vs : List Value} {fs : List Fl} (h : w.ownsRow base e 2 (.slice (some ⟨g, 0, none⟩) n cap) n vs) (hv : vs = fs.flatMap flL) : OwnFl w base e g n cap fs := by
  subst hv
  refine ⟨h, ?_⟩
  have := h.1
  rw [fl_flat_len] at this
  omega
theorem concat_put (g len cap : Nat) (Pt Tx : Nat → ByteArray) (p t : ByteArray) (k m nb cb : Nat) (ad : Addr) (w : World) (hf : FilesAt w (some ⟨g, 0, none⟩) g 0 len Pt Tx) (hl : len ≤ 8) (hk : k ≤ len) (hm : m + nb = len) (had : 0 < nb → ad = ⟨g, m * 2, none⟩) :
    Calls Try.prog 93 #[.slice (some ⟨w.heap.size + 1, 0, none⟩) 3 3] ((w.alloc (.cells #[.string p, .string t] 52)).alloc (.cells #[.slice (some ⟨g, 0, none⟩) k cap, .slice (some ⟨w.heap.size, 0, none⟩) 1 1, .slice (some ad) nb cb] 48)).drew fun e w' => ∃ g' n cap', e = .returned (.slice (some ⟨g', 0, none⟩) n cap') ∧ OwnFl w' w.heap.size 52 g' n cap' ((flsOf len Pt Tx).take k ++ (p, t) :: (flsOf len Pt Tx).drop m) ∧ Below w.heap.size w w' := by
  have e1 : (w.alloc (.cells #[.string p, .string t] 52)).heap.size = w.heap.size + 1 := by show (w.heap.push _).size = _; simp
  have hb1 : Below w.heap.size w (w.alloc (.cells #[.string p, .string t] 52)) := (Below.refl _ _).alloc (Nat.le_refl _) _
  have hb2 : Below w.heap.size w ((w.alloc (.cells #[.string p, .string t] 52)).alloc (.cells #[.slice (some ⟨g, 0, none⟩) k cap, .slice (some ⟨w.heap.size, 0, none⟩) 1 1, .slice (some ad) nb cb] 48)).drew := (hb1.alloc (by omega) _).drew
  have hx : ((w.alloc (.cells #[.string p, .string t] 52)).alloc (.cells #[.slice (some ⟨g, 0, none⟩) k cap, .slice (some ⟨w.heap.size, 0, none⟩) 1 1, .slice (some ad) nb cb] 48)).drew.heap[w.heap.size]? = some (.cells #[.string p, .string t] 52 (0, 0)) := (heap_alloc_old _ _ (by omega)).trans (heap_alloc_new w _)
  have hg := heap_alloc_new (w.alloc (.cells #[.string p, .string t] 52)) (.cells #[.slice (some ⟨g, 0, none⟩) k cap, .slice (some ⟨w.heap.size, 0, none⟩) 1 1, .slice (some ad) nb cb] 48)
  rw [e1] at hg
  have hrows := cat3_rows (rowF_part (hf.later hb2) ⟨g, 0, none⟩ 0 k cap (by omega) (fun _ => by rw [Nat.zero_mul])) (rowF_box hx) (rowF_part (hf.later hb2) ad m nb cb (by omega) had)
  refine (concatF_any (w.heap.size + 1) _ _ hg hrows (by show 3 ≤ 1000; omega) (by show k + (1 + (nb + 0)) ≤ 1000; omega)).mono ?_
  rintro e w' ⟨v, rfl, ho, hb, hv⟩
  obtain ⟨g', cap', rfl⟩ := hv (by show 0 < k + (1 + (nb + 0)); omega)
  have hb' := hb2.trans (hb.mono hb2.size)
  refine ⟨g', _, cap', rfl, ownFl_low (ownV_fl ho ?_) hb2.size, hb'⟩
  show ((((flsOf len Pt Tx).drop 0).take k).flatMap flL) ++ (flL (p, t) ++ ((((flsOf len Pt Tx).drop m).take nb).flatMap flL ++ [])) = _
  rw [List.flatMap_append, List.flatMap_cons, List.append_nil, List.drop_zero, List.take_of_length_le (l := (flsOf len Pt Tx).drop m) (by rw [List.length_drop, flsOf_len]; omega)]
set_option maxRecDepth 100000 in
set_option maxHeartbeats 3200000 in
theorem putRowF_any (g len cap : Nat) (Pt Tx : Nat → ByteArray) (p t : ByteArray) (w : World) (hf : FilesAt w (some ⟨g, 0, none⟩) g 0 len Pt Tx) (hb : filesB len Pt Tx = true) (hcap : len ≤ cap) :
    Calls Try.prog 67 #[.slice (some ⟨g, 0, none⟩) len cap, .agg #[.string p, .string t], .func (.func 68) #[] #[]] w fun e w' => ∃ g' n cap', e = .returned (.slice (some ⟨g', 0, none⟩) n cap') ∧ OwnFl w' w.heap.size 52 g' n cap' (putFs (flsOf len Pt Tx) (p, t)) ∧ Below w.heap.size w w' := by
  have hl : len ≤ 8 := (filesB_iff.1 hb).1
  have HB := hidU hb
  have X0 : Hid ((w.alloc (.cells #[.string p, .string t] 52)).heap[w.heap.size]? = some (.cells #[.string p, .string t] 52 (0, 0))) := heap_alloc_new w _
  have A0 : Hid (Below w.heap.size w (w.alloc (.cells #[.string p, .string t] 52))) := (Below.refl _ _).alloc (Nat.le_refl _) _
  have F0 := hidU (hf.later A0.out)
  have HF := hidU hf
  clear hf hb
  go_enter Try.func67, Try.ntmps67
  go_wp2_with fail
  refine (searchF_any g len cap Pt Tx p t _ F0.out (by omega) (ris_mono HB.out p)).mono ?_
  rintro e w1 ⟨k, b, rfl, hfa, hb1⟩
  have hkl : k ≤ len := hfa.1
  have FA := hidU (put_found (Tx := Tx) (x := (p, t)) HB.out hfa)
  have FB := hidU hfa.2.2.2
  have X1 := hidU (boxF_later X0.out hb1)
  have B1 := hidU (A0.out.trans (hb1.mono A0.out.size))
  have F1 := hidU (HF.out.later B1.out)
  clear hfa hb1 X0 A0 F0
  have c0 : w1.cell? ⟨w.heap.size, 0, none⟩ = some (.string p) := by simp [World.cell?, X1.out]
  have c1 : w1.cell? ⟨w.heap.size, 1, none⟩ = some (.string t) := by simp [World.cell?, X1.out]
  have x2 := (Array.getElem?_eq_some_iff.1 X1.out).1
  have hkc : (k : Int) ≤ (cap : Int) := by omega
  cases b with
  | false =>
    have FA2 : Hid (putFs (flsOf len Pt Tx) (p, t) = (flsOf len Pt Tx).take k ++ (p, t) :: (flsOf len Pt Tx).drop k) := FA.out
    clear FA FB HB HF
    go_wp2
    · have hz : ¬ 0 < len - k := by omega
      go_region_law (first | ((try go_simp); go_wp2_with (go_at_call 93; refine (concat_put g len _ Pt Tx p t k k (len - k) _ _ w1 F1.out hl hkl (by omega) (fun h => (by first | exact absurd h hz | rfl))).mono ?_; rintro e w3 ⟨g3, n3, cap3, rfl, ho3, hb3⟩; have O3 := hidU ho3; have B3 := hidU hb3; clear ho3 hb3)))
      all_goals
        go_wp2
        go_ret
        exact ⟨g3, n3, cap3, rfl, by rw [FA2.out]; exact ownFl_low O3.out B1.out.size, B1.out.trans (B3.out.mono B1.out.size)⟩
    · go_region_law (first | ((try go_simp); go_wp2_with (go_at_call 93; refine (concat_put g len cap Pt Tx p t k k (len - k) _ _ w1 F1.out hl hkl (by omega) (fun h => rfl)).mono ?_; rintro e w3 ⟨g3, n3, cap3, rfl, ho3, hb3⟩; have O3 := hidU ho3; have B3 := hidU hb3; clear ho3 hb3)))
      all_goals
        go_wp2
        go_ret
        exact ⟨g3, n3, cap3, rfl, by rw [FA2.out]; exact ownFl_low O3.out B1.out.size, B1.out.trans (B3.out.mono B1.out.size)⟩
  | true =>
    have FA2 : Hid (putFs (flsOf len Pt Tx) (p, t) = (flsOf len Pt Tx).take k ++ (p, t) :: (flsOf len Pt Tx).drop (k + 1)) := FA.out
    have hk1 : k < len := (FB.out.1 rfl).1
    have hcn : ¬ cap = k := by omega
    have hc1 : (1 : Int) ≤ ((cap - k : Nat) : Int) := by omega
    have hc2 : (1 : Int) ≤ ((len - k : Nat) : Int) := by omega
    clear FA FB HB HF
    go_wp2
    · have hz : ¬ 0 < len - k - 1 := by omega
      go_region_law (first | ((try go_simp); go_wp2_with (go_at_call 93; refine (concat_put g len _ Pt Tx p t k (k + 1) (len - k - 1) _ _ w1 F1.out hl hkl (by omega) (fun h => absurd h hz)).mono ?_; rintro e w3 ⟨g3, n3, cap3, rfl, ho3, hb3⟩; have O3 := hidU ho3; have B3 := hidU hb3; clear ho3 hb3)))
      all_goals
        go_wp2
        go_ret
        exact ⟨g3, n3, cap3, rfl, by rw [FA2.out]; exact ownFl_low O3.out B1.out.size, B1.out.trans (B3.out.mono B1.out.size)⟩
    · have had : 0 < len - k - 1 → (⟨g, k * 2 + 2, none⟩ : Addr) = ⟨g, (k + 1) * 2, none⟩ := fun _ => by rw [show (k + 1) * 2 = k * 2 + 2 from by omega]
      have HAD := hidU had
      clear had
      go_region_law (first | ((try go_simp); go_wp2_with (go_at_call 93; refine (concat_put g len _ Pt Tx p t k (k + 1) (len - k - 1) _ _ w1 F1.out hl hkl (by omega) HAD.out).mono ?_; rintro e w3 ⟨g3, n3, cap3, rfl, ho3, hb3⟩; have O3 := hidU ho3; have B3 := hidU hb3; clear ho3 hb3)))
      all_goals
        go_wp2
        go_ret
        exact ⟨g3, n3, cap3, rfl, by rw [FA2.out]; exact ownFl_low O3.out B1.out.size, B1.out.trans (B3.out.mono B1.out.size)⟩
end Go.Proofs.Ytdbpknmoacjodaa
namespace Go.Proofs.Ytdbpknmoacjodaa
open Go.RowKit Go.PlainAid Go.Sort

theorem fls_back (fs : List Fl) : flsOf fs.length (ptOf fs) (txOf fs) = fs := by
  apply List.ext_getElem?
  intro j
  rcases Nat.lt_or_ge j fs.length with h | h
  · rw [flsOf_at h, List.getElem?_eq_getElem h, (ptOf_at h).1, (ptOf_at h).2]
  · rw [List.getElem?_eq_none (by rw [flsOf_len]; exact h), List.getElem?_eq_none h]
theorem putFs_in (x : Fl) (fs : List Fl) : ∀ y ∈ putFs fs x, y ∈ fs ∨ y = x := by
  have key : ∀ (l : List Fl) (st : Bool × List Fl) (y : Fl), y ∈ (l.foldl (putStep x) st).2 → y ∈ st.2 ∨ y ∈ l ∨ y = x := by
    intro l
    induction l with
    | nil => intro st y h; exact .inl h
    | cons z l ih =>
      intro st y h
      rw [List.foldl_cons] at h
      rcases ih _ y h with h | h | h
      · unfold putStep at h
        split at h
        · split at h
          · rcases List.mem_append.1 h with h | h
            · exact .inl h
            · exact .inr (.inr (List.mem_singleton.1 h))
          · exact .inl h
        · split at h
          · rcases List.mem_append.1 h with h | h
            · rcases List.mem_append.1 h with h | h
              · exact .inl h
              · exact .inr (.inr (List.mem_singleton.1 h))
            · exact .inr (.inl (by rw [List.mem_singleton.1 h]; simp))
          · rcases List.mem_append.1 h with h | h
            · exact .inl h
            · exact .inr (.inl (by rw [List.mem_singleton.1 h]; simp))
      · exact .inr (.inl (by simp [h]))
      · exact .inr (.inr h)
  intro y hy
  unfold putFs at hy
  split at hy
  · rcases key _ _ y hy with h | h
    · cases h
    · exact h
  · rcases List.mem_append.1 hy with h | h
    · rcases key _ _ y h with h | h
      · cases h
      · exact h
    · exact .inr (List.mem_singleton.1 h)
theorem fls_in {len : Nat} {Pt Tx : Nat → ByteArray} {y : Fl} (h : y ∈ flsOf len Pt Tx) : ∃ j, j < len ∧ y = (Pt j, Tx j) := by
  unfold flsOf at h
  obtain ⟨j, hj, rfl⟩ := List.mem_map.1 h
  exact ⟨j, List.mem_range.1 hj, rfl⟩
theorem put_szI {len : Nat} {Pt Tx : Nat → ByteArray} {p t : ByteArray} (hp : ∀ j, j < len → (Pt j).size ≤ 1048576) (ht : ∀ j, j < len → (Tx j).size ≤ 1048576) (hxp : p.size ≤ 1048576) (hxt : t.size ≤ 1048576) (j : Nat) (hj : j < (putFs (flsOf len Pt Tx) (p, t)).length) :
    (ptOf (putFs (flsOf len Pt Tx) (p, t)) j).size ≤ 1048576 ∧ (txOf (putFs (flsOf len Pt Tx) (p, t)) j).size ≤ 1048576 := by
  rw [(ptOf_at hj).1, (ptOf_at hj).2]
  rcases putFs_in _ _ _ (List.getElem_mem hj) with h | h
  · obtain ⟨i, hi, e⟩ := fls_in h
    rw [e]
    exact ⟨hp i hi, ht i hi⟩
  · rw [h]
    exact ⟨hxp, hxt⟩
set_option maxRecDepth 100000 in
set_option maxHeartbeats 3200000 in
theorem putFile_implC (g len cap : Nat) (Pt Tx : Nat → ByteArray) (p t : ByteArray) (w : World) (hf : FilesAt w (some ⟨g, 0, none⟩) g 0 len Pt Tx) (hcap : len ≤ cap) (hl : len ≤ 1048576) (hp : ∀ j, j < len → (Pt j).size ≤ 1048576) (ht : ∀ j, j < len → (Tx j).size ≤ 1048576) (hxp : p.size ≤ 1048576) (hxt : t.size ≤ 1048576) :
    Calls Try.prog 21 #[.slice (some ⟨g, 0, none⟩) len cap, .agg #[.string p, .string t]] w fun e w' => ∃ a n c, e = .returned (.tuple #[.slice a n c, .bool (putS len Pt Tx (p, t)).2]) ∧ OutF w' w.heap.size a n c (putS len Pt Tx (p, t)).1 ∧ Below w.heap.size w w' := by
  have X0 : Hid ((w.alloc (.cells #[.string p, .string t] 52)).heap[w.heap.size]? = some (.cells #[.string p, .string t] 52 (0, 0))) := heap_alloc_new w _
  have A0 : Hid (Below w.heap.size w (w.alloc (.cells #[.string p, .string t] 52))) := (Below.refl _ _).alloc (Nat.le_refl _) _
  have HF := hidU hf
  have HP := hidU hp
  have HT := hidU ht
  clear hf hp ht
  cases hfb : filesB len Pt Tx with
  | false =>
    have HV : Hid (putS len Pt Tx (p, t) = ([], false)) := by show putS len Pt Tx (p, t) = _; rw [putS, hfb]; rfl
    go_enter Try.func21, Try.ntmps21
    go_wp2_with fail
    refine (filesOk_implA _ g len cap Pt Tx _ (HF.out.later A0.out) hl HP.out HT.out).mono ?_
    rintro e w1 ⟨rfl, hb1⟩
    rw [hfb]
    have B1 := hidU (A0.out.trans (hb1.mono A0.out.size))
    clear hb1
    go_wp2
    go_ret2
    exact ⟨none, 0, 0, by rw [HV.out]; rfl, by rw [HV.out]; exact OutF.nil _ _ _ _, B1.out⟩
  | true =>
    have hl8 : len ≤ 8 := (filesB_iff.1 hfb).1
    have HFB := hidU hfb
    have HL : Hid ((putFs (flsOf len Pt Tx) (p, t)).length ≤ 1000) := by
      show _ ≤ _
      obtain ⟨A, M, B, e, hA, hB, hM⟩ := part_at (p, t) (flsOf len Pt Tx) (fls_ris (by rw [filesB_fls]; exact hfb))
      rw [e, put_part hA hB hM, List.length_append, List.length_cons]
      have := congrArg List.length e
      rw [flsOf_len, List.length_append, List.length_append] at this
      omega
    have HS := hidU (put_szI (Pt := Pt) (Tx := Tx) (p := p) (t := t) HP.out HT.out hxp hxt)
    go_enter Try.func21, Try.ntmps21
    go_wp2_with fail
    refine (filesOk_implA _ g len cap Pt Tx _ (HF.out.later A0.out) hl HP.out HT.out).mono ?_
    rintro e w1 ⟨rfl, hb1⟩
    rw [hfb]
    have B1 := hidU (A0.out.trans (hb1.mono A0.out.size))
    have X1 := hidU (boxF_later X0.out hb1)
    have c0 : w1.cell? ⟨w.heap.size, 0, none⟩ = some (.string p) := by simp [World.cell?, X1.out]
    have c1 : w1.cell? ⟨w.heap.size, 1, none⟩ = some (.string t) := by simp [World.cell?, X1.out]
    clear hb1 X0 X1 A0
    go_wp2_with fail
    refine (putRowF_any g len cap Pt Tx p t _ (HF.out.later B1.out) HFB.out hcap).mono ?_
    rintro e w2 ⟨g2, n2, cap2, rfl, ho2, hb2⟩
    have N2 := hidU ho2.2
    have hn2 : n2 ≤ 1000 := by rw [ho2.2]; exact HL.out
    have F2 := hidU (ownFl_files ho2)
    have B2 := hidU (B1.out.trans (hb2.mono B1.out.size))
    clear ho2 hb2 c0 c1
    have HQ : Hid (putS len Pt Tx (p, t) = if filesB n2 (ptOf (putFs (flsOf len Pt Tx) (p, t))) (txOf (putFs (flsOf len Pt Tx) (p, t))) then (putFs (flsOf len Pt Tx) (p, t), true) else (flsOf len Pt Tx, false)) := by
      show _ = _
      rw [putS, HFB.out, N2.out]
      rfl
    have HK : Hid (flsOf n2 (ptOf (putFs (flsOf len Pt Tx) (p, t))) (txOf (putFs (flsOf len Pt Tx) (p, t))) = putFs (flsOf len Pt Tx) (p, t)) := by
      show _ = _
      rw [N2.out]
      exact fls_back _
    have S2 : Hid (∀ j, j < n2 → (ptOf (putFs (flsOf len Pt Tx) (p, t)) j).size ≤ 1048576 ∧ (txOf (putFs (flsOf len Pt Tx) (p, t)) j).size ≤ 1048576) := by
      show ∀ j, j < n2 → _
      rw [N2.out]
      exact HS.out
    clear N2 HS HL
    obtain ⟨L, hL⟩ : ∃ L, putFs (flsOf len Pt Tx) (p, t) = L := ⟨_, rfl⟩
    rw [hL] at HQ HK S2 F2
    clear hL
    go_wp2_with fail
    refine (filesOk_implA _ g2 n2 cap2 _ _ _ F2.out (by omega) (fun j hj => (S2.out j hj).1) (fun j hj => (S2.out j hj).2)).mono ?_
    rintro e w3 ⟨rfl, hb3⟩
    have B3 := hidU (B2.out.trans (hb3.mono B2.out.size))
    have F3 := hidU (F2.out.later hb3)
    clear hb3 F2
    cases hfq : filesB n2 (ptOf L) (txOf L) with
    | false =>
      have HV : Hid (putS len Pt Tx (p, t) = (flsOf len Pt Tx, false)) := by show _ = _; rw [HQ.out, hfq]; rfl
      go_wp2_with fail
      refine (copyFiles_any _ g len cap Pt Tx _ (HF.out.later B3.out) (by omega) HP.out HT.out).mono ?_
      rintro e w4 ⟨g4, cap4, rfl, ho4, hb4⟩
      have O4 := hidU (ownFl_low ho4 B3.out.size)
      have B4 := hidU (B3.out.trans (hb4.mono B3.out.size))
      clear ho4 hb4
      go_wp2
      go_ret2
      exact ⟨_, len, cap4, by rw [HV.out]; rfl, by rw [HV.out]; exact OutF.own O4.out, B4.out⟩
    | true =>
      have HV : Hid (putS len Pt Tx (p, t) = (L, true)) := by show _ = _; rw [HQ.out, hfq]; rfl
      go_wp2_with fail
      refine (copyFiles_any _ g2 n2 cap2 _ _ _ F3.out (by omega) (fun j hj => (S2.out j hj).1) (fun j hj => (S2.out j hj).2)).mono ?_
      rintro e w4 ⟨g4, cap4, rfl, ho4, hb4⟩
      rw [HK.out] at ho4
      have O4 := hidU (ownFl_low ho4 B3.out.size)
      have B4 := hidU (B3.out.trans (hb4.mono B3.out.size))
      clear ho4 hb4
      go_wp2
      go_ret2
      exact ⟨_, n2, cap4, by rw [HV.out]; rfl, by rw [HV.out]; exact OutF.own O4.out, B4.out⟩
theorem putFile_impl (g len : Nat) (Pt Tx : Nat → ByteArray) (p t : ByteArray) (w : World) (hf : FilesAt w (some ⟨g, 0, none⟩) g 0 len Pt Tx) (hl : len ≤ 1048576) (hp : ∀ j, j < len → (Pt j).size ≤ 1048576) (ht : ∀ j, j < len → (Tx j).size ≤ 1048576) (hxp : p.size ≤ 1048576) (hxt : t.size ≤ 1048576) :
    Calls Try.prog 21 #[.slice (some ⟨g, 0, none⟩) len len, .agg #[.string p, .string t]] w fun e w' => ∃ a n c, e = .returned (.tuple #[.slice a n c, .bool (putS len Pt Tx (p, t)).2]) ∧ OutF w' w.heap.size a n c (putS len Pt Tx (p, t)).1 ∧ Below w.heap.size w w' := putFile_implC g len len Pt Tx p t w hf (Nat.le_refl _) hl hp ht hxp hxt
end Go.Proofs.Ytdbpknmoacjodaa
