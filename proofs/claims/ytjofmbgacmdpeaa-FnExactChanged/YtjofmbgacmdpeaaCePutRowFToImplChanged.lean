/-
  What impl.putRow answers at files: the walk.
  What impl.PutFile answers: the walk.
  What impl.Changed answers: the walk.
-/
import Derived.Test.YtjofmbgacmdpeaaCeCopyFiles
import Derived.Test.YtjofmbgacmdpeaaCeOutRow
namespace Go.Proofs.Ytjofmbgacmdpeaa
open Go.RowKit Go.PlainAid Go.Sort

theorem boxF_later {w W : World} {gx : Nat} {o : Obj} (h : w.heap[gx]? = some o) (hb : Below w.heap.size w W) : W.heap[gx]? = some o := (hb.block gx (Array.getElem?_eq_some_iff.1 h).1).trans h
theorem add_at (b o j : Nat) : (⟨b, o, none⟩ : Addr).add j = ⟨b, o + j, none⟩ := by simp [Addr.add]
theorem fl_cells {w : World} {b off : Nat} {fs : List Fl} (h : ∀ j x, fs[j]? = some x → w.cell? ⟨b, off + j * 2, none⟩ = some (.string x.1) ∧ w.cell? ⟨b, off + j * 2 + 1, none⟩ = some (.string x.2)) : ∀ i u, (fs.flatMap flL)[i]? = some u → w.cell? ((⟨b, off, none⟩ : Addr).add i) = some u := by
  intro i u hu
  rw [add_at]
  have hi : i < fs.length * 2 := by rw [← fl_flat_len]; exact (List.getElem?_eq_some_iff.1 hu).1
  have hj : i / 2 < fs.length := by omega
  have e := fl_flat fs (i / 2) (i % 2) fs[i / 2] (by omega) (List.getElem?_eq_getElem hj)
  rw [show i / 2 * 2 + i % 2 = i from by omega, hu] at e
  have h1 := h (i / 2) _ (List.getElem?_eq_getElem hj)
  rcases Nat.mod_two_eq_zero_or_one i with h0 | h0
  · rw [h0] at e
    cases e
    rw [show off + i = off + i / 2 * 2 from by omega]
    exact h1.1
  · rw [h0] at e
    cases e
    rw [show off + i = off + i / 2 * 2 + 1 from by omega]
    exact h1.2
theorem fl_one {fs : List Fl} : ∀ u ∈ fs.flatMap flL, u.oneCell' = true := by
  intro u hu
  obtain ⟨x, _, hx⟩ := List.mem_flatMap.1 hu
  simp [flL] at hx
  rcases hx with rfl | rfl <;> rfl
theorem rowF_part {w : World} {a : Option Addr} {g len : Nat} {Pt Tx : Nat → ByteArray} (hf : FilesAt w a g 0 len Pt Tx) (ad : Addr) (k n cap : Nat) (hk : k + n ≤ len) (had : 0 < n → ad = ⟨g, k * 2, none⟩) : (RowV.mk ad n cap ((((flsOf len Pt Tx).drop k).take n).flatMap flL)).At w 2 := by
  have hlen : (((flsOf len Pt Tx).drop k).take n).length = n := by rw [List.length_take, List.length_drop, flsOf_len]; omega
  refine ⟨by rw [fl_flat_len, hlen], ?_, fl_one⟩
  rcases Nat.eq_zero_or_pos n with h0 | h0
  · subst h0
    intro j u hj
    rw [List.take_zero] at hj
    cases hj
  · rw [had h0]
    refine fl_cells fun j x hx => ?_
    have hj : j < n := by rw [← hlen]; exact (List.getElem?_eq_some_iff.1 hx).1
    rw [List.getElem?_take_of_lt hj, List.getElem?_drop, flsOf_at (by omega)] at hx
    cases hx
    have h1 := hf.path (k + j) (by omega)
    have h2 := hf.text (k + j) (by omega)
    rw [Nat.zero_add, Nat.add_mul] at h1 h2
    exact ⟨h1, h2⟩
theorem rowF_box {w : World} {gx : Nat} {e : TypeId} {p t : ByteArray} (h : w.heap[gx]? = some (.cells #[.string p, .string t] e (0, 0))) : (RowV.mk ⟨gx, 0, none⟩ 1 1 (flL (p, t))).At w 2 := by
  refine ⟨rfl, fun j u hj => ?_, fun u hu => by simp [flL] at hu; rcases hu with rfl | rfl <;> rfl⟩
  rw [add_at, Nat.zero_add]
  match j, hj with
  | 0, hj => cases hj; simp [World.cell?, h]
  | 1, hj => cases hj; simp [World.cell?, h]
theorem ris_mono {len : Nat} {Pt Tx : Nat → ByteArray} (hb : filesB len Pt Tx = true) (q : ByteArray) : Mono len Pt q := by
  intro a b hab hbl h
  rcases Nat.eq_or_lt_of_le hab with rfl | hlt
  · exact h
  · have h1 := ris_of (P := Pt) (len := len) (fun k h0 hk => ((filesB_iff.1 hb).2 k hk).2 h0) a b hlt hbl
    exact less_trans _ _ _ h1 h
theorem put_found {len : Nat} {Pt Tx : Nat → ByteArray} {x : Fl} {k : Nat} {b : Bool} (hb : filesB len Pt Tx = true) (h : FoundAt len Pt x.1 k b) : putFs (flsOf len Pt Tx) x = (flsOf len Pt Tx).take k ++ x :: (flsOf len Pt Tx).drop (if b then k + 1 else k) := by
  obtain ⟨hk, h1, h2, h3⟩ := h
  have hA : Ahd x ((flsOf len Pt Tx).take k) := fun y hy => by
    obtain ⟨j, hj, rfl⟩ := List.getElem_of_mem hy
    rw [List.length_take, flsOf_len] at hj
    have e : ((flsOf len Pt Tx).take k)[j]? = some (Pt j, Tx j) := by rw [List.getElem?_take_of_lt (by omega), flsOf_at (by omega)]
    rw [(List.getElem?_eq_some_iff.1 e).2]
    exact h1 j (by omega)
  have big : ∀ j, k ≤ j → j < len → Pt j ≠ x.1 → Op.bytesLess x.1.toList (Pt j).toList = true := fun j hj hl hne => by
    rcases less_tri (Pt j).toList x.1.toList with h | h | h
    · have := h2 j hj hl
      unfold lessT at this
      rw [h] at this
      cases this
    · exact absurd ((toList_eq_iff _ _).1 (by rw [h]; exact beq_self_eq_true _)) hne
    · exact h
  have rs : ∀ i j, i < j → j < len → Op.bytesLess (Pt i).toList (Pt j).toList = true := ris_of (P := Pt) (len := len) (fun k h0 hk => ((filesB_iff.1 hb).2 k hk).2 h0)
  have hB : ∀ m, (∀ j, m ≤ j → j < len → Op.bytesLess x.1.toList (Pt j).toList = true) → Bhd x ((flsOf len Pt Tx).drop m) := fun m hm y hy => by
    obtain ⟨j, hj, rfl⟩ := List.getElem_of_mem hy
    rw [List.length_drop, flsOf_len] at hj
    have e : ((flsOf len Pt Tx).drop m)[j]? = some (Pt (m + j), Tx (m + j)) := by rw [List.getElem?_drop, flsOf_at (by omega)]
    rw [(List.getElem?_eq_some_iff.1 e).2]
    exact hm (m + j) (by omega) (by omega)
  cases b with
  | true =>
    obtain ⟨hkl, hpk⟩ := h3.1 rfl
    have hd : (flsOf len Pt Tx).drop k = [(Pt k, Tx k)] ++ (flsOf len Pt Tx).drop (k + 1) := by
      have hk' : k < (flsOf len Pt Tx).length := by rw [flsOf_len]; exact hkl
      rw [List.drop_eq_getElem_cons hk', (List.getElem?_eq_some_iff.1 (flsOf_at (Pt := Pt) (Tx := Tx) hkl)).2]
      rfl
    have e := put_part (M := [(Pt k, Tx k)]) hA (hB (k + 1) fun j hj hl => by rw [← hpk]; exact rs k j (by omega) hl) (.inr ⟨Tx k, by rw [hpk]⟩)
    rw [← hd, List.take_append_drop] at e
    exact e
  | false =>
    have e := put_part (M := []) hA (hB k fun j hj hl => big j hj hl fun hp => by
      rcases Nat.eq_or_lt_of_le hj with rfl | hlt
      · have := h3.2 ⟨hl, hp⟩
        cases this
      · have h4 := rs k j hlt hl
        rw [hp] at h4
        have := h2 k (Nat.le_refl _) (by omega)
        unfold lessT at this
        rw [h4] at this
        cases this) (.inl rfl)
    rw [List.nil_append, List.take_append_drop] at e
    exact e
theorem cat3_rows {W : World} {size : Nat} {r1 r2 r3 : RowV} (h1 : r1.At W size) (h2 : r2.At W size) (h3 : r3.At W size) : ∀ r ∈ [r1, r2, r3], r.At W size := by
  intro r hr
  rcases List.mem_cons.1 hr with rfl | hr
  · exact h1
  · rcases List.mem_cons.1 hr with rfl | hr
    · exact h2
    · rcases List.mem_cons.1 hr with rfl | hr
      · exact h3
      · cases hr
theorem ownV_fl {w : World} {base n g cap : Nat} {e : TypeId} {vs : List Value} {fs : List Fl} (h : w.ownsRow base e 2 (.slice (some ⟨g, 0, none⟩) n cap) n vs) (hv : vs = fs.flatMap flL) : OwnFl w base e g n cap fs := by
  subst hv
  refine ⟨h, ?_⟩
  have := h.1
  rw [fl_flat_len] at this
  omega
theorem concat_put (g len cap : Nat) (Pt Tx : Nat → ByteArray) (p t : ByteArray) (k m nb cb : Nat) (ad : Addr) (w : World) (hf : FilesAt w (some ⟨g, 0, none⟩) g 0 len Pt Tx) (hl : len ≤ 8) (hk : k ≤ len) (hm : m + nb = len) (had : 0 < nb → ad = ⟨g, m * 2, none⟩) :
    Calls Try.prog 61 #[.slice (some ⟨w.heap.size + 1, 0, none⟩) 3 3] ((w.alloc (.cells #[.string p, .string t] 33)).alloc (.cells #[.slice (some ⟨g, 0, none⟩) k cap, .slice (some ⟨w.heap.size, 0, none⟩) 1 1, .slice (some ad) nb cb] 24)).drew fun e w' => ∃ g' n cap', e = .returned (.slice (some ⟨g', 0, none⟩) n cap') ∧ OwnFl w' w.heap.size 33 g' n cap' ((flsOf len Pt Tx).take k ++ (p, t) :: (flsOf len Pt Tx).drop m) ∧ Below w.heap.size w w' := by
  have e1 : (w.alloc (.cells #[.string p, .string t] 33)).heap.size = w.heap.size + 1 := by show (w.heap.push _).size = _; simp
  have hb1 : Below w.heap.size w (w.alloc (.cells #[.string p, .string t] 33)) := (Below.refl _ _).alloc (Nat.le_refl _) _
  have hb2 : Below w.heap.size w ((w.alloc (.cells #[.string p, .string t] 33)).alloc (.cells #[.slice (some ⟨g, 0, none⟩) k cap, .slice (some ⟨w.heap.size, 0, none⟩) 1 1, .slice (some ad) nb cb] 24)).drew := (hb1.alloc (by omega) _).drew
  have hx : ((w.alloc (.cells #[.string p, .string t] 33)).alloc (.cells #[.slice (some ⟨g, 0, none⟩) k cap, .slice (some ⟨w.heap.size, 0, none⟩) 1 1, .slice (some ad) nb cb] 24)).drew.heap[w.heap.size]? = some (.cells #[.string p, .string t] 33 (0, 0)) := (heap_alloc_old _ _ (by omega)).trans (heap_alloc_new w _)
  have hg := heap_alloc_new (w.alloc (.cells #[.string p, .string t] 33)) (.cells #[.slice (some ⟨g, 0, none⟩) k cap, .slice (some ⟨w.heap.size, 0, none⟩) 1 1, .slice (some ad) nb cb] 24)
  rw [e1] at hg
  have hrows := cat3_rows (rowF_part (hf.later hb2) ⟨g, 0, none⟩ 0 k cap (by omega) (fun _ => by rw [Nat.zero_mul])) (rowF_box hx) (rowF_part (hf.later hb2) ad m nb cb (by omega) had)
  refine (concatF_any (w.heap.size + 1) _ _ hg hrows (by show 3 ≤ 1000; omega) (by show k + (1 + (nb + 0)) ≤ 1000; omega)).mono ?_
  rintro e w' ⟨v, rfl, ho, hb, hv⟩
  obtain ⟨g', cap', rfl⟩ := hv (by show 0 < k + (1 + (nb + 0)); omega)
  have hb' := hb2.trans (hb.mono hb2.size)
  refine ⟨g', _, cap', rfl, ownFl_low (ownV_fl ho ?_) hb2.size, hb'⟩
  show ((((flsOf len Pt Tx).drop 0).take k).flatMap flL) ++ (flL (p, t) ++ ((((flsOf len Pt Tx).drop m).take nb).flatMap flL ++ [])) = _
  rw [List.flatMap_append, List.flatMap_cons, List.append_nil, List.drop_zero, List.take_of_length_le (l := (flsOf len Pt Tx).drop m) (by rw [List.length_drop, flsOf_len]; omega)]
set_option maxRecDepth 100000 in
set_option maxHeartbeats 3200000 in
theorem putRowF_any (g len cap : Nat) (Pt Tx : Nat → ByteArray) (p t : ByteArray) (w : World) (hf : FilesAt w (some ⟨g, 0, none⟩) g 0 len Pt Tx) (hb : filesB len Pt Tx = true) (hcap : len ≤ cap) :
    Calls Try.prog 55 #[.slice (some ⟨g, 0, none⟩) len cap, .agg #[.string p, .string t], .func (.func 56) #[] #[]] w fun e w' => ∃ g' n cap', e = .returned (.slice (some ⟨g', 0, none⟩) n cap') ∧ OwnFl w' w.heap.size 33 g' n cap' (putFs (flsOf len Pt Tx) (p, t)) ∧ Below w.heap.size w w' := by
  have hl : len ≤ 8 := (filesB_iff.1 hb).1
  have HB := hidU hb
  have X0 : Hid ((w.alloc (.cells #[.string p, .string t] 33)).heap[w.heap.size]? = some (.cells #[.string p, .string t] 33 (0, 0))) := heap_alloc_new w _
  have A0 : Hid (Below w.heap.size w (w.alloc (.cells #[.string p, .string t] 33))) := (Below.refl _ _).alloc (Nat.le_refl _) _
  have F0 := hidU (hf.later A0.out)
  have HF := hidU hf
  clear hf hb
  go_enter Try.func55, Try.ntmps55
  go_wp2_with fail
  refine (searchF_any g len cap Pt Tx p t _ F0.out (by omega) (ris_mono HB.out p)).mono ?_
  rintro e w1 ⟨k, b, rfl, hfa, hb1⟩
  have hkl : k ≤ len := hfa.1
  have FA := hidU (put_found (Tx := Tx) (x := (p, t)) HB.out hfa)
  have FB := hidU hfa.2.2.2
  have X1 := hidU (boxF_later X0.out hb1)
  have B1 := hidU (A0.out.trans (hb1.mono A0.out.size))
  have F1 := hidU (HF.out.later B1.out)
  clear hfa hb1 X0 A0 F0
  have c0 : w1.cell? ⟨w.heap.size, 0, none⟩ = some (.string p) := by simp [World.cell?, X1.out]
  have c1 : w1.cell? ⟨w.heap.size, 1, none⟩ = some (.string t) := by simp [World.cell?, X1.out]
  have x2 := (Array.getElem?_eq_some_iff.1 X1.out).1
  have hkc : (k : Int) ≤ (cap : Int) := by omega
  cases b with
  | false =>
    have FA2 : Hid (putFs (flsOf len Pt Tx) (p, t) = (flsOf len Pt Tx).take k ++ (p, t) :: (flsOf len Pt Tx).drop k) := FA.out
    clear FA FB HB HF
    go_wp2
    · have hz : ¬ 0 < len - k := by omega
      go_region_law (first | ((try go_simp); go_wp2_with (go_at_call 61; refine (concat_put g len _ Pt Tx p t k k (len - k) _ _ w1 F1.out hl hkl (by omega) (fun h => (by first | exact absurd h hz | rfl))).mono ?_; rintro e w3 ⟨g3, n3, cap3, rfl, ho3, hb3⟩; have O3 := hidU ho3; have B3 := hidU hb3; clear ho3 hb3)))
      all_goals
        go_wp2
        go_ret
        exact ⟨g3, n3, cap3, rfl, by rw [FA2.out]; exact ownFl_low O3.out B1.out.size, B1.out.trans (B3.out.mono B1.out.size)⟩
    · go_region_law (first | ((try go_simp); go_wp2_with (go_at_call 61; refine (concat_put g len cap Pt Tx p t k k (len - k) _ _ w1 F1.out hl hkl (by omega) (fun h => rfl)).mono ?_; rintro e w3 ⟨g3, n3, cap3, rfl, ho3, hb3⟩; have O3 := hidU ho3; have B3 := hidU hb3; clear ho3 hb3)))
      all_goals
        go_wp2
        go_ret
        exact ⟨g3, n3, cap3, rfl, by rw [FA2.out]; exact ownFl_low O3.out B1.out.size, B1.out.trans (B3.out.mono B1.out.size)⟩
  | true =>
    have FA2 : Hid (putFs (flsOf len Pt Tx) (p, t) = (flsOf len Pt Tx).take k ++ (p, t) :: (flsOf len Pt Tx).drop (k + 1)) := FA.out
    have hk1 : k < len := (FB.out.1 rfl).1
    have hcn : ¬ cap = k := by omega
    have hc1 : (1 : Int) ≤ ((cap - k : Nat) : Int) := by omega
    have hc2 : (1 : Int) ≤ ((len - k : Nat) : Int) := by omega
    clear FA FB HB HF
    go_wp2
    · have hz : ¬ 0 < len - k - 1 := by omega
      go_region_law (first | ((try go_simp); go_wp2_with (go_at_call 61; refine (concat_put g len _ Pt Tx p t k (k + 1) (len - k - 1) _ _ w1 F1.out hl hkl (by omega) (fun h => absurd h hz)).mono ?_; rintro e w3 ⟨g3, n3, cap3, rfl, ho3, hb3⟩; have O3 := hidU ho3; have B3 := hidU hb3; clear ho3 hb3)))
      all_goals
        go_wp2
        go_ret
        exact ⟨g3, n3, cap3, rfl, by rw [FA2.out]; exact ownFl_low O3.out B1.out.size, B1.out.trans (B3.out.mono B1.out.size)⟩
    · have had : 0 < len - k - 1 → (⟨g, k * 2 + 2, none⟩ : Addr) = ⟨g, (k + 1) * 2, none⟩ := fun _ => by rw [show (k + 1) * 2 = k * 2 + 2 from by omega]
      have HAD := hidU had
      clear had
      go_region_law (first | ((try go_simp); go_wp2_with (go_at_call 61; refine (concat_put g len _ Pt Tx p t k (k + 1) (len - k - 1) _ _ w1 F1.out hl hkl (by omega) HAD.out).mono ?_; rintro e w3 ⟨g3, n3, cap3, rfl, ho3, hb3⟩; have O3 := hidU ho3; have B3 := hidU hb3; clear ho3 hb3)))
      all_goals
        go_wp2
        go_ret
        exact ⟨g3, n3, cap3, rfl, by rw [FA2.out]; exact ownFl_low O3.out B1.out.size, B1.out.trans (B3.out.mono B1.out.size)⟩
end Go.Proofs.Ytjofmbgacmdpeaa
namespace Go.Proofs.Ytjofmbgacmdpeaa
open Go.RowKit Go.PlainAid Go.Sort

theorem fls_back (fs : List Fl) : flsOf fs.length (ptOf fs) (txOf fs) = fs := by
  apply List.ext_getElem?
  intro j
  rcases Nat.lt_or_ge j fs.length with h | h
  · rw [flsOf_at h, List.getElem?_eq_getElem h, (ptOf_at h).1, (ptOf_at h).2]
  · rw [List.getElem?_eq_none (by rw [flsOf_len]; exact h), List.getElem?_eq_none h]
theorem putFs_in (x : Fl) (fs : List Fl) : ∀ y ∈ putFs fs x, y ∈ fs ∨ y = x := by
  have key : ∀ (l : List Fl) (st : Bool × List Fl) (y : Fl), y ∈ (l.foldl (putStep x) st).2 → y ∈ st.2 ∨ y ∈ l ∨ y = x := by
    intro l
    induction l with
    | nil => intro st y h; exact .inl h
    | cons z l ih =>
      intro st y h
      rw [List.foldl_cons] at h
      rcases ih _ y h with h | h | h
      · unfold putStep at h
        split at h
        · split at h
          · rcases List.mem_append.1 h with h | h
            · exact .inl h
            · exact .inr (.inr (List.mem_singleton.1 h))
          · exact .inl h
        · split at h
          · rcases List.mem_append.1 h with h | h
            · rcases List.mem_append.1 h with h | h
              · exact .inl h
              · exact .inr (.inr (List.mem_singleton.1 h))
            · exact .inr (.inl (by rw [List.mem_singleton.1 h]; simp))
          · rcases List.mem_append.1 h with h | h
            · exact .inl h
            · exact .inr (.inl (by rw [List.mem_singleton.1 h]; simp))
      · exact .inr (.inl (by simp [h]))
      · exact .inr (.inr h)
  intro y hy
  unfold putFs at hy
  split at hy
  · rcases key _ _ y hy with h | h
    · cases h
    · exact h
  · rcases List.mem_append.1 hy with h | h
    · rcases key _ _ y h with h | h
      · cases h
      · exact h
    · exact .inr (List.mem_singleton.1 h)
theorem fls_in {len : Nat} {Pt Tx : Nat → ByteArray} {y : Fl} (h : y ∈ flsOf len Pt Tx) : ∃ j, j < len ∧ y = (Pt j, Tx j) := by
  unfold flsOf at h
  obtain ⟨j, hj, rfl⟩ := List.mem_map.1 h
  exact ⟨j, List.mem_range.1 hj, rfl⟩
theorem put_szI {len : Nat} {Pt Tx : Nat → ByteArray} {p t : ByteArray} (hp : ∀ j, j < len → (Pt j).size ≤ 1048576) (ht : ∀ j, j < len → (Tx j).size ≤ 1048576) (hxp : p.size ≤ 1048576) (hxt : t.size ≤ 1048576) (j : Nat) (hj : j < (putFs (flsOf len Pt Tx) (p, t)).length) :
    (ptOf (putFs (flsOf len Pt Tx) (p, t)) j).size ≤ 1048576 ∧ (txOf (putFs (flsOf len Pt Tx) (p, t)) j).size ≤ 1048576 := by
  rw [(ptOf_at hj).1, (ptOf_at hj).2]
  rcases putFs_in _ _ _ (List.getElem_mem hj) with h | h
  · obtain ⟨i, hi, e⟩ := fls_in h
    rw [e]
    exact ⟨hp i hi, ht i hi⟩
  · rw [h]
    exact ⟨hxp, hxt⟩
set_option maxRecDepth 100000 in
set_option maxHeartbeats 3200000 in
theorem putFile_implC (g len cap : Nat) (Pt Tx : Nat → ByteArray) (p t : ByteArray) (w : World) (hf : FilesAt w (some ⟨g, 0, none⟩) g 0 len Pt Tx) (hcap : len ≤ cap) (hl : len ≤ 1048576) (hp : ∀ j, j < len → (Pt j).size ≤ 1048576) (ht : ∀ j, j < len → (Tx j).size ≤ 1048576) (hxp : p.size ≤ 1048576) (hxt : t.size ≤ 1048576) :
    Calls Try.prog 18 #[.slice (some ⟨g, 0, none⟩) len cap, .agg #[.string p, .string t]] w fun e w' => ∃ a n c, e = .returned (.tuple #[.slice a n c, .bool (putS len Pt Tx (p, t)).2]) ∧ OutF w' w.heap.size a n c (putS len Pt Tx (p, t)).1 ∧ Below w.heap.size w w' := by
  have X0 : Hid ((w.alloc (.cells #[.string p, .string t] 33)).heap[w.heap.size]? = some (.cells #[.string p, .string t] 33 (0, 0))) := heap_alloc_new w _
  have A0 : Hid (Below w.heap.size w (w.alloc (.cells #[.string p, .string t] 33))) := (Below.refl _ _).alloc (Nat.le_refl _) _
  have HF := hidU hf
  have HP := hidU hp
  have HT := hidU ht
  clear hf hp ht
  cases hfb : filesB len Pt Tx with
  | false =>
    have HV : Hid (putS len Pt Tx (p, t) = ([], false)) := by show putS len Pt Tx (p, t) = _; rw [putS, hfb]; rfl
    go_enter Try.func18, Try.ntmps18
    go_wp2_with fail
    refine (filesOk_implA _ g len cap Pt Tx _ (HF.out.later A0.out) hl HP.out HT.out).mono ?_
    rintro e w1 ⟨rfl, hb1⟩
    rw [hfb]
    have B1 := hidU (A0.out.trans (hb1.mono A0.out.size))
    clear hb1
    go_wp2
    go_ret2
    exact ⟨none, 0, 0, by rw [HV.out]; rfl, by rw [HV.out]; exact OutF.nil _ _ _ _, B1.out⟩
  | true =>
    have hl8 : len ≤ 8 := (filesB_iff.1 hfb).1
    have HFB := hidU hfb
    have HL : Hid ((putFs (flsOf len Pt Tx) (p, t)).length ≤ 1000) := by
      show _ ≤ _
      obtain ⟨A, M, B, e, hA, hB, hM⟩ := part_at (p, t) (flsOf len Pt Tx) (fls_ris (by rw [filesB_fls]; exact hfb))
      rw [e, put_part hA hB hM, List.length_append, List.length_cons]
      have := congrArg List.length e
      rw [flsOf_len, List.length_append, List.length_append] at this
      omega
    have HS := hidU (put_szI (Pt := Pt) (Tx := Tx) (p := p) (t := t) HP.out HT.out hxp hxt)
    go_enter Try.func18, Try.ntmps18
    go_wp2_with fail
    refine (filesOk_implA _ g len cap Pt Tx _ (HF.out.later A0.out) hl HP.out HT.out).mono ?_
    rintro e w1 ⟨rfl, hb1⟩
    rw [hfb]
    have B1 := hidU (A0.out.trans (hb1.mono A0.out.size))
    have X1 := hidU (boxF_later X0.out hb1)
    have c0 : w1.cell? ⟨w.heap.size, 0, none⟩ = some (.string p) := by simp [World.cell?, X1.out]
    have c1 : w1.cell? ⟨w.heap.size, 1, none⟩ = some (.string t) := by simp [World.cell?, X1.out]
    clear hb1 X0 X1 A0
    go_wp2_with fail
    refine (putRowF_any g len cap Pt Tx p t _ (HF.out.later B1.out) HFB.out hcap).mono ?_
    rintro e w2 ⟨g2, n2, cap2, rfl, ho2, hb2⟩
    have N2 := hidU ho2.2
    have hn2 : n2 ≤ 1000 := by rw [ho2.2]; exact HL.out
    have F2 := hidU (ownFl_files ho2)
    have B2 := hidU (B1.out.trans (hb2.mono B1.out.size))
    clear ho2 hb2 c0 c1
    have HQ : Hid (putS len Pt Tx (p, t) = if filesB n2 (ptOf (putFs (flsOf len Pt Tx) (p, t))) (txOf (putFs (flsOf len Pt Tx) (p, t))) then (putFs (flsOf len Pt Tx) (p, t), true) else (flsOf len Pt Tx, false)) := by
      show _ = _
      rw [putS, HFB.out, N2.out]
      rfl
    have HK : Hid (flsOf n2 (ptOf (putFs (flsOf len Pt Tx) (p, t))) (txOf (putFs (flsOf len Pt Tx) (p, t))) = putFs (flsOf len Pt Tx) (p, t)) := by
      show _ = _
      rw [N2.out]
      exact fls_back _
    have S2 : Hid (∀ j, j < n2 → (ptOf (putFs (flsOf len Pt Tx) (p, t)) j).size ≤ 1048576 ∧ (txOf (putFs (flsOf len Pt Tx) (p, t)) j).size ≤ 1048576) := by
      show ∀ j, j < n2 → _
      rw [N2.out]
      exact HS.out
    clear N2 HS HL
    obtain ⟨L, hL⟩ : ∃ L, putFs (flsOf len Pt Tx) (p, t) = L := ⟨_, rfl⟩
    rw [hL] at HQ HK S2 F2
    clear hL
    go_wp2_with fail
    refine (filesOk_implA _ g2 n2 cap2 _ _ _ F2.out (by omega) (fun j hj => (S2.out j hj).1) (fun j hj => (S2.out j hj).2)).mono ?_
    rintro e w3 ⟨rfl, hb3⟩
    have B3 := hidU (B2.out.trans (hb3.mono B2.out.size))
    have F3 := hidU (F2.out.later hb3)
    clear hb3 F2
    cases hfq : filesB n2 (ptOf L) (txOf L) with
    | false =>
      have HV : Hid (putS len Pt Tx (p, t) = (flsOf len Pt Tx, false)) := by show _ = _; rw [HQ.out, hfq]; rfl
      go_wp2_with fail
      refine (copyFiles_any _ g len cap Pt Tx _ (HF.out.later B3.out) (by omega) HP.out HT.out).mono ?_
      rintro e w4 ⟨g4, cap4, rfl, ho4, hb4⟩
      have O4 := hidU (ownFl_low ho4 B3.out.size)
      have B4 := hidU (B3.out.trans (hb4.mono B3.out.size))
      clear ho4 hb4
      go_wp2
      go_ret2
      exact ⟨_, len, cap4, by rw [HV.out]; rfl, by rw [HV.out]; exact OutF.own O4.out, B4.out⟩
    | true =>
      have HV : Hid (putS len Pt Tx (p, t) = (L, true)) := by show _ = _; rw [HQ.out, hfq]; rfl
      go_wp2_with fail
      refine (copyFiles_any _ g2 n2 cap2 _ _ _ F3.out (by omega) (fun j hj => (S2.out j hj).1) (fun j hj => (S2.out j hj).2)).mono ?_
      rintro e w4 ⟨g4, cap4, rfl, ho4, hb4⟩
      rw [HK.out] at ho4
      have O4 := hidU (ownFl_low ho4 B3.out.size)
      have B4 := hidU (B3.out.trans (hb4.mono B3.out.size))
      clear ho4 hb4
      go_wp2
      go_ret2
      exact ⟨_, n2, cap4, by rw [HV.out]; rfl, by rw [HV.out]; exact OutF.own O4.out, B4.out⟩
theorem putFile_impl (g len : Nat) (Pt Tx : Nat → ByteArray) (p t : ByteArray) (w : World) (hf : FilesAt w (some ⟨g, 0, none⟩) g 0 len Pt Tx) (hl : len ≤ 1048576) (hp : ∀ j, j < len → (Pt j).size ≤ 1048576) (ht : ∀ j, j < len → (Tx j).size ≤ 1048576) (hxp : p.size ≤ 1048576) (hxt : t.size ≤ 1048576) :
    Calls Try.prog 18 #[.slice (some ⟨g, 0, none⟩) len len, .agg #[.string p, .string t]] w fun e w' => ∃ a n c, e = .returned (.tuple #[.slice a n c, .bool (putS len Pt Tx (p, t)).2]) ∧ OutF w' w.heap.size a n c (putS len Pt Tx (p, t)).1 ∧ Below w.heap.size w w' := putFile_implC g len len Pt Tx p t w hf (Nat.le_refl _) hl hp ht hxp hxt
end Go.Proofs.Ytjofmbgacmdpeaa
namespace Go.Proofs.Ytjofmbgacmdpeaa
open Go.RowKit Go.PlainAid Go.Sort

theorem cat2_rows {W : World} {size : Nat} {r1 r2 : RowV} (h1 : r1.At W size) (h2 : r2.At W size) : ∀ r ∈ [r1, r2], r.At W size := by
  intro r hr
  rcases List.mem_cons.1 hr with rfl | hr
  · exact h1
  · rcases List.mem_cons.1 hr with rfl | hr
    · exact h2
    · cases hr
theorem ownFl_row {w : World} {base g n cap : Nat} {e : TypeId} {fs : List Fl} (h : OwnFl w base e g n cap fs) : (RowV.mk ⟨g, 0, none⟩ n cap (fs.flatMap flL)).At w 2 := by
  refine ⟨by rw [fl_flat_len, h.2], fun j u hj => h.1.cells (g := g) rfl j u hj, fl_one⟩
theorem ownV_out {w : World} {base n : Nat} {v : Value} {vs : List Value} {fs : List Fl} (h : w.ownsRow base 33 2 v n vs) (hv : vs = fs.flatMap flL) : ∃ a cap, v = .slice a n cap ∧ OutF w base a n cap fs := by
  subst hv
  have hl : n = fs.length := by
    have := h.1
    rw [fl_flat_len] at this
    omega
  rcases h.2 with ⟨rfl, rfl⟩ | ⟨g, cap, cur, rfl, hr⟩
  · refine ⟨none, 0, rfl, hl, fun h => absurd h (Nat.lt_irrefl _)⟩
  · exact ⟨some ⟨g, 0, none⟩, cap, rfl, hl, fun _ => ⟨g, rfl, ⟨h.1, .inr ⟨g, cap, cur, rfl, hr⟩⟩, hl⟩⟩
def pathsTo (L : List Fl) (k : Nat) : List ByteArray := ((L.take k).map Prod.fst).foldl putT []
theorem pathsTo_snoc {L : List Fl} {k : Nat} {x : Fl} (h : L[k]? = some x) : pathsTo L (k + 1) = putT (pathsTo L k) x.1 := by
  unfold pathsTo
  rw [take_snoc h, List.map_append, List.foldl_append]
  rfl
theorem pathsTo_ris (L : List Fl) : ∀ k, RisT (pathsTo L k) := by
  intro k
  induction k with
  | zero => exact List.Pairwise.nil
  | succ k ih =>
    rcases Nat.lt_or_ge k L.length with h | h
    · rw [pathsTo_snoc (List.getElem?_eq_getElem h)]
      exact putT_ris _ ih
    · have e : pathsTo L (k + 1) = pathsTo L k := by unfold pathsTo; rw [List.take_of_length_le (by omega), List.take_of_length_le h]
      rw [e]
      exact ih
theorem pathsTo_len (L : List Fl) : ∀ k, (pathsTo L k).length ≤ k := by
  intro k
  induction k with
  | zero => exact Nat.le_refl _
  | succ k ih =>
    rcases Nat.lt_or_ge k L.length with h | h
    · rw [pathsTo_snoc (List.getElem?_eq_getElem h)]
      exact Nat.le_trans (putT_len _ _) (by omega)
    · have e : pathsTo L (k + 1) = pathsTo L k := by unfold pathsTo; rw [List.take_of_length_le (by omega), List.take_of_length_le h]
      rw [e]
      omega
theorem ownS_nil (w : World) (e : TypeId) : OwnS (w.alloc (.cells #[] e)) w.heap.size e w.heap.size 0 0 [] := ⟨World.ownsRow_lit w #[] 0 (Nat.le_refl _) (by unfold maxLen; omega) rfl, rfl⟩
theorem ownS_tOf {w : World} {base g n cap : Nat} {e : TypeId} {xs : List ByteArray} (h : OwnS w base e g n cap xs) : TextsAt w (some ⟨g, 0, none⟩) g xs.length (tOf xs) := by
  have := ownS_texts h
  rw [h.2] at this
  exact this
theorem miss_mem {l a : List Fl} {x : Fl} (h : x ∈ missL l a) : x ∈ a := (List.mem_filter.1 h).1
theorem concat_two (g1 n1 c1 g2 n2 c2 base : Nat) (F1 F2 : List Fl) (w : World) (h1 : OwnFl w base 33 g1 n1 c1 F1) (h2 : OwnFl w base 33 g2 n2 c2 F2) (hn1 : n1 ≤ 100) (hn2 : n2 ≤ 100) :
    Calls Try.prog 61 #[.slice (some ⟨w.heap.size, 0, none⟩) 2 2] (w.alloc (.cells #[.slice (some ⟨g1, 0, none⟩) n1 c1, .slice (some ⟨g2, 0, none⟩) n2 c2] 24)) fun e w' => ∃ a n cap, e = .returned (.slice a n cap) ∧ OutF w' w.heap.size a n cap (F1 ++ F2) ∧ Below w.heap.size w w' := by
  have hb : Below w.heap.size w (w.alloc (.cells #[.slice (some ⟨g1, 0, none⟩) n1 c1, .slice (some ⟨g2, 0, none⟩) n2 c2] 24)) := (Below.refl _ _).alloc (Nat.le_refl _) _
  have hg := heap_alloc_new w (.cells #[.slice (some ⟨g1, 0, none⟩) n1 c1, .slice (some ⟨g2, 0, none⟩) n2 c2] 24)
  refine (concatF_any w.heap.size [RowV.mk ⟨g1, 0, none⟩ n1 c1 (F1.flatMap flL), RowV.mk ⟨g2, 0, none⟩ n2 c2 (F2.flatMap flL)] _ hg (cat2_rows (ownFl_row (ownFl_later h1 hb)) (ownFl_row (ownFl_later h2 hb))) (by show 2 ≤ 1000; omega) (by show n1 + (n2 + 0) ≤ 1000; omega)).mono ?_
  rintro e w' ⟨v, rfl, ho, hb', _⟩
  obtain ⟨a, cap, rfl, hout⟩ := ownV_out (fs := F1 ++ F2) ho (by rw [List.flatMap_append]; show F1.flatMap flL ++ (F2.flatMap flL ++ []) = _; rw [List.append_nil])
  refine ⟨a, _, cap, rfl, ⟨hout.1, fun h0 => ?_⟩, hb.trans (hb'.mono hb.size)⟩
  obtain ⟨g, e, h3⟩ := hout.2 h0
  exact ⟨g, e, ownFl_low h3 hb.size⟩
set_option maxRecDepth 100000 in
set_option maxHeartbeats 3200000 in
theorem changed_with (heq : EqlC) (hgd : GrdC) (g1 l1 c1 : Nat) (P1 T1 : Nat → ByteArray) (g2 l2 c2 : Nat) (P2 T2 : Nat → ByteArray) (w : World) (hf1 : FilesAt w (some ⟨g1, 0, none⟩) g1 0 l1 P1 T1) (hf2 : FilesAt w (some ⟨g2, 0, none⟩) g2 0 l2 P2 T2) (hl1 : l1 ≤ 1048576) (hl2 : l2 ≤ 1048576) (hp1 : ∀ j, j < l1 → (P1 j).size ≤ 1048576) (ht1 : ∀ j, j < l1 → (T1 j).size ≤ 1048576) (hp2 : ∀ j, j < l2 → (P2 j).size ≤ 1048576) (ht2 : ∀ j, j < l2 → (T2 j).size ≤ 1048576) :
    Calls Try.prog 22 #[.slice (some ⟨g1, 0, none⟩) l1 c1, .slice (some ⟨g2, 0, none⟩) l2 c2] w fun e w' => ∃ a n c, e = .returned (.slice a n c) ∧ OutS w' w.heap.size a n c (changedS l1 P1 T1 l2 P2 T2) ∧ Below w.heap.size w w' := by
  have H1 := hidU hf1
  have H2 := hidU hf2
  have HQ := hidU heq
  have HG := hidU hgd
  have HP1 := hidU hp1
  have HT1 := hidU ht1
  have HP2 := hidU hp2
  have HT2 := hidU ht2
  clear hf1 hf2 heq hgd hp1 ht1 hp2 ht2
  cases hb1 : filesB l1 P1 T1 with
  | false =>
    have HV : Hid (changedS l1 P1 T1 l2 P2 T2 = []) := by show _ = _; rw [changedS, hb1]; rfl
    go_enter Try.func22, Try.ntmps22
    go_wp2_with fail
    refine (filesOk_implA _ g1 l1 c1 P1 T1 _ H1.out hl1 HP1.out HT1.out).mono ?_
    rintro e w1 ⟨rfl, hb⟩
    rw [hb1]
    go_wp2
    go_ret
    exact ⟨none, 0, 0, rfl, by rw [HV.out]; exact OutS.nil _ _ _ _, hb⟩
  | true =>
    cases hb2 : filesB l2 P2 T2 with
    | false =>
      have HV : Hid (changedS l1 P1 T1 l2 P2 T2 = []) := by show _ = _; rw [changedS, hb1, hb2]; rfl
      go_enter Try.func22, Try.ntmps22
      go_wp2_with fail
      refine (filesOk_implA _ g1 l1 c1 P1 T1 _ H1.out hl1 HP1.out HT1.out).mono ?_
      rintro e w1 ⟨rfl, hb⟩
      rw [hb1]
      have B1 := hidU hb
      clear hb
      go_wp2_with fail
      refine (filesOk_implA _ g2 l2 c2 P2 T2 _ (H2.out.later B1.out) hl2 HP2.out HT2.out).mono ?_
      rintro e w2 ⟨rfl, hb⟩
      rw [hb2]
      have B2 := hidU (B1.out.trans (hb.mono B1.out.size))
      clear hb
      go_wp2
      go_ret
      exact ⟨none, 0, 0, rfl, by rw [HV.out]; exact OutS.nil _ _ _ _, B2.out⟩
    | true =>
      have hs1 : l1 ≤ 8 := (filesB_iff.1 hb1).1
      have hs2 : l2 ≤ 8 := (filesB_iff.1 hb2).1
      obtain ⟨L, hL⟩ : ∃ L, missL (flsOf l2 P2 T2) (flsOf l1 P1 T1) ++ missL (flsOf l1 P1 T1) (flsOf l2 P2 T2) = L := ⟨_, rfl⟩
      have HV : Hid (changedS l1 P1 T1 l2 P2 T2 = pathsTo L L.length) := by
        show _ = _
        have e := changed_same (a := flsOf l1 P1 T1) (b := flsOf l2 P2 T2) (by rw [filesB_fls]; exact hb1) (by rw [filesB_fls]; exact hb2)
        unfold pathsTo
        rw [List.take_of_length_le (Nat.le_refl _), ← hL, ← e]
        unfold changedF changedS
        rw [hb1, hb2]
        have hA : ∀ out x, chA l2 P2 T2 out x = chA (flsOf l2 P2 T2).length (ptOf (flsOf l2 P2 T2)) (txOf (flsOf l2 P2 T2)) out x := fun out x => by
          have := findF_fls l2 P2 T2 x.1
          unfold findF at this
          unfold chA
          rw [this]
        have hB : ∀ out x, chB l1 P1 T1 out x = chB (flsOf l1 P1 T1).length (ptOf (flsOf l1 P1 T1)) (txOf (flsOf l1 P1 T1)) out x := fun out x => by
          have := findF_fls l1 P1 T1 x.1
          unfold findF at this
          unfold chB
          rw [this]
        rw [show chA l2 P2 T2 = chA (flsOf l2 P2 T2).length (ptOf (flsOf l2 P2 T2)) (txOf (flsOf l2 P2 T2)) from funext fun o => funext fun x => hA o x, show chB l1 P1 T1 = chB (flsOf l1 P1 T1).length (ptOf (flsOf l1 P1 T1)) (txOf (flsOf l1 P1 T1)) from funext fun o => funext fun x => hB o x]
        rfl
      have HSz : Hid (∀ x ∈ L, x.1.size ≤ 1048576) := by
        show ∀ x ∈ L, _
        intro x hx
        rw [← hL] at hx
        rcases List.mem_append.1 hx with hx | hx
        · obtain ⟨j, hj, rfl⟩ := fls_in (miss_mem hx)
          exact HP1.out j hj
        · obtain ⟨j, hj, rfl⟩ := fls_in (miss_mem hx)
          exact HP2.out j hj
      have HLn : Hid (L.length ≤ 16) := by
        show _ ≤ _
        rw [← hL, List.length_append]
        have h1 := missL_len (flsOf l2 P2 T2) (flsOf l1 P1 T1)
        have h2 := missL_len (flsOf l1 P1 T1) (flsOf l2 P2 T2)
        rw [flsOf_len] at h1 h2
        omega
      have HL := hidU hL
      clear hL
      go_enter Try.func22, Try.ntmps22
      go_wp2_with fail
      refine (filesOk_implA _ g1 l1 c1 P1 T1 _ H1.out hl1 HP1.out HT1.out).mono ?_
      rintro e w1 ⟨rfl, hb⟩
      rw [hb1]
      have B1 := hidU hb
      clear hb
      go_wp2_with fail
      refine (filesOk_implA _ g2 l2 c2 P2 T2 _ (H2.out.later B1.out) hl2 HP2.out HT2.out).mono ?_
      rintro e w2 ⟨rfl, hb⟩
      rw [hb2]
      have B2 := hidU (B1.out.trans (hb.mono B1.out.size))
      have O2 := hidU (ownS_nil w2 9)
      have A2 : Hid (Below w2.heap.size w2 (w2.alloc (.cells #[] 9))) := (Below.refl _ _).alloc (Nat.le_refl _) _
      have B2a := hidU (B2.out.trans (A2.out.mono B2.out.size))
      clear hb B1
      go_wp2_with fail
      refine (missing_with HQ.out HG.out g2 l2 c2 P2 T2 g1 l1 c1 P1 T1 _ (H2.out.later B2a.out) (H1.out.later B2a.out) (by omega) (by omega)).mono ?_
      rintro e w3 ⟨g3, n3, c3, rfl, ho3, hb3⟩
      have O3 := hidU ho3
      have B3 := hidU (B2a.out.trans (hb3.mono B2a.out.size))
      have S3 := hidU (ownS_later O2.out hb3)
      have hn3 : n3 ≤ 8 := by
        rw [ho3.2]
        refine Nat.le_trans (missL_len _ _) ?_
        rw [flsOf_len]
        exact hs1
      clear ho3 hb3 O2 A2 B2a
      go_wp2_with fail
      refine (missing_with HQ.out HG.out g1 l1 c1 P1 T1 g2 l2 c2 P2 T2 _ (H1.out.later B3.out) (H2.out.later B3.out) (by omega) (by omega)).mono ?_
      rintro e w4 ⟨g4, n4, c4, rfl, ho4, hb4⟩
      have B4 := hidU (B3.out.trans (hb4.mono B3.out.size))
      have O4 := hidU (ownFl_low ho4 B3.out.size)
      have O3' := hidU (ownFl_low (ownFl_later O3.out hb4) (Nat.le_trans B2.out.size (by rw [show (w2.alloc (.cells #[] 9)).heap.size = w2.heap.size + 1 from by show (w2.heap.push _).size = _; simp]; omega)))
      have S4 := hidU (ownS_later S3.out hb4)
      have hn4 : n4 ≤ 8 := by
        rw [ho4.2]
        refine Nat.le_trans (missL_len _ _) ?_
        rw [flsOf_len]
        exact hs2
      clear ho4 hb4 O3 S3 B3
      go_wp2_with fail
      refine (concat_two g3 n3 c3 g4 n4 c4 w.heap.size _ _ w4 O3'.out O4.out (by omega) (by omega)).mono ?_
      rintro e w5 ⟨a5, n5, c5, rfl, ho5, hb5⟩
      rw [HL.out] at ho5
      have O5 := hidU ho5
      have N5 := hidU ho5.1
      have hn5 : n5 ≤ 16 := by rw [ho5.1]; exact HLn.out
      have B5 := hidU (B4.out.trans (hb5.mono B4.out.size))
      have S5 := hidU (ownS_low (ownS_later S4.out hb5) B2.out.size)
      clear ho5 hb5 O3' O4 S4 B4
      go_wp2
      go_loopw [26, 5, 7] (fun i o _ wr => ∃ (k g n cap : Nat), k ≤ n5 ∧ i = .int .i64 k ∧ o = .slice (some ⟨g, 0, none⟩) n cap ∧ Hid (OwnS wr w.heap.size 9 g n cap (pathsTo L k)) ∧ Hid (OutF wr w4.heap.size a5 n5 c5 L) ∧ Hid (Below w.heap.size w wr)) (fun i _ _ _ => (n5 - intOf i).toNat)
      case atStart => exact ⟨0, _, 0, 0, Nat.zero_le _, rfl, rfl, S5, O5, B5⟩
      case round =>
        clear S5 O5 B5 B2
        obtain ⟨k, g, n, cap, hk, rfl, rfl, S, O, B⟩ := hrel
        by_cases hlt : k < n5
        · obtain ⟨x, hx⟩ : ∃ x, L[k]? = some x := ⟨_, List.getElem?_eq_getElem (by rw [← N5.out]; exact hlt)⟩
          obtain ⟨gl, ea, hl⟩ := O.out.2 (by omega)
          subst ea
          obtain ⟨x0, x1⟩ := ownFl_has hl hx
          have hxs := HSz.out x (List.mem_of_getElem? hx)
          have HX := hidU (pathsTo_snoc hx)
          have hlg : Hid (gl < wr.heap.size) := (ownFl_blk hl).2
          obtain ⟨p, t⟩ := x
          simp only at x0 x1 hxs HX
          have A1 : Hid (Below wr.heap.size wr (wr.alloc (.cells #[.string p, .string t] 33))) := (Below.refl _ _).alloc (Nat.le_refl _) _
          have hps := pathsTo_len L k
          have HR := hidU (pathsTo_ris L k)
          obtain ⟨xs, hxe⟩ : ∃ xs, pathsTo L k = xs := ⟨_, rfl⟩
          rw [hxe] at S hps HR HX
          obtain rfl : n = xs.length := S.out.2
          have hcap : xs.length ≤ cap := (ownS_cap S.out).1
          clear hx hl hxe
          go_wp2_with fail
          refine (clone_any _ _ (by omega)).mono ?_
          rintro e w6 ⟨rfl, hb6⟩
          have C6 := hidU (A1.out.trans (hb6.mono A1.out.size))
          have B6 := hidU (B.out.trans (C6.out.mono B.out.size))
          have S6 := hidU (ownS_later S.out C6.out)
          have O6 := hidU (O.out.later C6.out)
          clear hb6 A1 S O B C6 x0 x1
          go_wp2_with fail
          refine (putRowS_any g cap xs p _ (ownS_tOf S6.out) HR.out (by omega) hcap).mono ?_
          rintro e w7 ⟨g7, n7, cap7, rfl, ho7, hb7⟩
          have B7 := hidU (B6.out.trans (hb7.mono B6.out.size))
          have O7 := hidU (O6.out.later hb7)
          have S7 := hidU (ownS_low ho7 B6.out.size)
          clear ho7 hb7 O6 S6 B6
          go_wp2
          go_roundw
          case rel => exact ⟨k + 1, g7, n7, cap7, hlt, by go_num, rfl, hidU (by rw [HX.out]; exact S7.out), O7, B7⟩
          case measure => simp [intOf]; omega
        · have HE : Hid (k = L.length) := by
            show _ = _
            have := N5.out
            omega
          go_wp2
          go_ret
          exact ⟨_, n, cap, rfl, by rw [HV.out, ← HE.out]; exact OutS.own S.out, B.out⟩
end Go.Proofs.Ytjofmbgacmdpeaa
