/-
  What impl.putRow answers at texts: the walk.
  'append' of one file onto a row of the call's own, as one step of a region that draws its order. No program is spoken of.
-/
import Derived.Test.YtjofmbgacmdpeaaCeRowsCat
import Derived.Test.YtjofmbgacmdpeaaCeSearchRows
import Derived.Test.YtjofmbgacmdpeaaCeFilesLawToEqF
namespace Go.Proofs.Ytjofmbgacmdpeaa
open Go.RowKit Go.PlainAid Go.Sort

theorem addS_at (b o j : Nat) : (⟨b, o, none⟩ : Addr).add j = ⟨b, o + j, none⟩ := by simp [Addr.add]
def tOf (xs : List ByteArray) (j : Nat) : ByteArray := xs.getD j { data := #[] }
theorem tOf_at {xs : List ByteArray} {j : Nat} (h : j < xs.length) : xs[j]? = some (tOf xs j) := by simp [tOf, List.getD, List.getElem?_eq_getElem h]
theorem rowS_part {w : World} {g : Nat} {xs : List ByteArray} (hf : TextsAt w (some ⟨g, 0, none⟩) g xs.length (tOf xs)) (ad : Addr) (k n cap : Nat) (hk : k + n ≤ xs.length) (had : 0 < n → ad = ⟨g, k, none⟩) : (RowV.mk ad n cap (((xs.drop k).take n).map Value.string)).At w 1 := by
  have hlen : ((xs.drop k).take n).length = n := by rw [List.length_take, List.length_drop]; omega
  refine ⟨by rw [List.length_map, hlen, Nat.mul_one], fun j u hj => ?_, fun u hu => ?_⟩
  · have hjn : j < n := by
      have := (List.getElem?_eq_some_iff.1 hj).1
      rw [List.length_map, hlen] at this
      exact this
    rw [had (by omega), addS_at]
    rw [List.getElem?_map, List.getElem?_take_of_lt hjn, List.getElem?_drop, tOf_at (by omega)] at hj
    cases hj
    exact hf.cell (k + j) (by omega)
  · obtain ⟨x, _, rfl⟩ := List.mem_map.1 hu
    rfl
theorem rowS_box {w : World} {gx : Nat} {e : TypeId} {p : ByteArray} (h : w.heap[gx]? = some (.cells #[.string p] e (0, 0))) : (RowV.mk ⟨gx, 0, none⟩ 1 1 [.string p]).At w 1 := by
  refine ⟨rfl, fun j u hj => ?_, fun u hu => by simp at hu; rw [hu]; rfl⟩
  rw [addS_at, Nat.zero_add]
  match j, hj with
  | 0, hj => cases hj; simp [World.cell?, h]
theorem ris_monoT {xs : List ByteArray} (h : RisT xs) (q : ByteArray) : Mono xs.length (tOf xs) q := by
  intro a b hab hbl hl
  rcases Nat.eq_or_lt_of_le hab with rfl | hlt
  · exact hl
  · unfold RisT at h
    rw [List.pairwise_iff_getElem] at h
    have h1 := h a b (by omega) hbl hlt
    have ea : tOf xs a = xs[a] := by simp [tOf, List.getD, List.getElem?_eq_getElem (show a < xs.length by omega)]
    have eb : tOf xs b = xs[b] := by simp [tOf, List.getD, List.getElem?_eq_getElem hbl]
    rw [ea]
    rw [eb] at hl
    exact lessT_trans h1 hl
theorem putT_found {xs : List ByteArray} {p : ByteArray} {k : Nat} {b : Bool} (hr : RisT xs) (h : FoundAt xs.length (tOf xs) p k b) : putT xs p = xs.take k ++ p :: xs.drop (if b then k + 1 else k) := by
  obtain ⟨hk, h1, h2, h3⟩ := h
  have et : ∀ j, (hj : j < xs.length) → tOf xs j = xs[j] := fun j hj => by simp [tOf, List.getD, List.getElem?_eq_getElem hj]
  have rs := hr
  unfold RisT at rs
  rw [List.pairwise_iff_getElem] at rs
  cases b with
  | true =>
    obtain ⟨hkl, hpk⟩ := h3.1 rfl
    rw [et k hkl] at hpk
    have hin : p ∈ xs := by rw [← hpk]; exact List.getElem_mem hkl
    rw [putT_has hin]
    simp only [if_true]
    rw [← hpk, ← List.drop_eq_getElem_cons hkl, List.take_append_drop]
  | false =>
    have hne : ∀ j, (hj : j < xs.length) → xs[j] ≠ p := fun j hj e => by
      rcases Nat.lt_or_ge j k with hjk | hjk
      · have := h1 j hjk
        rw [et j hj, e] at this
        exact lessT_ne this rfl
      · rcases Nat.eq_or_lt_of_le hjk with rfl | hlt
        · have := h3.2 ⟨hj, by rw [et k hj]; exact e⟩
          cases this
        · have h4 := rs k j (by omega) hj hlt
          have h5 := h2 k (Nat.le_refl _) (by omega)
          rw [et k (by omega), ← e, h4] at h5
          cases h5
    have hni : p ∉ xs := fun e => by
      obtain ⟨j, hj, e⟩ := List.getElem_of_mem e
      exact hne j hj e
    unfold putT
    rw [if_neg (fun e => hni (inT_iff.1 e))]
    have hd := insT_at p (xs.take k) (xs.drop k) (fun y hy => by
      obtain ⟨j, hj, rfl⟩ := List.getElem_of_mem hy
      rw [List.length_take] at hj
      rw [List.getElem_take]
      have := h1 j (by omega)
      rw [et j (by omega)] at this
      exact this) (fun y hy => by
      obtain ⟨j, hj, rfl⟩ := List.getElem_of_mem hy
      rw [List.length_drop] at hj
      rw [List.getElem_drop]
      have h5 := h2 (k + j) (by omega) (by omega)
      rw [et (k + j) (by omega)] at h5
      rcases lessT_tri xs[k + j] p with g | g | g
      · rw [g] at h5; cases h5
      · exact absurd g (hne (k + j) (by omega))
      · exact g)
    rw [List.take_append_drop] at hd
    exact hd
theorem cat3S_rows {W : World} {size : Nat} {r1 r2 r3 : RowV} (h1 : r1.At W size) (h2 : r2.At W size) (h3 : r3.At W size) : ∀ r ∈ [r1, r2, r3], r.At W size := by
  intro r hr
  rcases List.mem_cons.1 hr with rfl | hr
  · exact h1
  · rcases List.mem_cons.1 hr with rfl | hr
    · exact h2
    · rcases List.mem_cons.1 hr with rfl | hr
      · exact h3
      · cases hr
theorem ownV_s {w : World} {base n g cap : Nat} {e : TypeId} {vs : List Value} {xs : List ByteArray} (h : w.ownsRow base e 1 (.slice (some ⟨g, 0, none⟩) n cap) n vs) (hv : vs = xs.map Value.string) : OwnS w base e g n cap xs := by
  subst hv
  refine ⟨h, ?_⟩
  have := h.1
  rw [List.length_map, Nat.mul_one] at this
  omega
theorem concat_putS (g cap : Nat) (xs : List ByteArray) (p : ByteArray) (k m nb cb : Nat) (ad : Addr) (w : World) (hf : TextsAt w (some ⟨g, 0, none⟩) g xs.length (tOf xs)) (hl : xs.length ≤ 100) (hk : k ≤ xs.length) (hm : m + nb = xs.length) (had : 0 < nb → ad = ⟨g, m, none⟩) :
    Calls Try.prog 87 #[.slice (some ⟨w.heap.size + 1, 0, none⟩) 3 3] ((w.alloc (.cells #[.string p] 9)).alloc (.cells #[.slice (some ⟨g, 0, none⟩) k cap, .slice (some ⟨w.heap.size, 0, none⟩) 1 1, .slice (some ad) nb cb] 40)) fun e w' => ∃ g' n cap', e = .returned (.slice (some ⟨g', 0, none⟩) n cap') ∧ OwnS w' w.heap.size 9 g' n cap' (xs.take k ++ p :: xs.drop m) ∧ Below w.heap.size w w' := by
  have e1 : (w.alloc (.cells #[.string p] 9)).heap.size = w.heap.size + 1 := by show (w.heap.push _).size = _; simp
  have hb1 : Below w.heap.size w (w.alloc (.cells #[.string p] 9)) := (Below.refl _ _).alloc (Nat.le_refl _) _
  have hb2 : Below w.heap.size w ((w.alloc (.cells #[.string p] 9)).alloc (.cells #[.slice (some ⟨g, 0, none⟩) k cap, .slice (some ⟨w.heap.size, 0, none⟩) 1 1, .slice (some ad) nb cb] 40)) := hb1.alloc (by omega) _
  have hx : ((w.alloc (.cells #[.string p] 9)).alloc (.cells #[.slice (some ⟨g, 0, none⟩) k cap, .slice (some ⟨w.heap.size, 0, none⟩) 1 1, .slice (some ad) nb cb] 40)).heap[w.heap.size]? = some (.cells #[.string p] 9 (0, 0)) := (heap_alloc_old _ _ (by omega)).trans (heap_alloc_new w _)
  have hg := heap_alloc_new (w.alloc (.cells #[.string p] 9)) (.cells #[.slice (some ⟨g, 0, none⟩) k cap, .slice (some ⟨w.heap.size, 0, none⟩) 1 1, .slice (some ad) nb cb] 40)
  rw [e1] at hg
  have hrows := cat3S_rows (rowS_part (hf.later hb2) ⟨g, 0, none⟩ 0 k cap (by omega) (fun _ => rfl)) (rowS_box hx) (rowS_part (hf.later hb2) ad m nb cb (by omega) had)
  refine (concatS_any (w.heap.size + 1) _ _ hg hrows (by show 3 ≤ 1000; omega) (by show k + (1 + (nb + 0)) ≤ 1000; omega)).mono ?_
  rintro e w' ⟨v, rfl, ho, hb, hv⟩
  obtain ⟨g', cap', rfl⟩ := hv (by show 0 < k + (1 + (nb + 0)); omega)
  have hb' := hb2.trans (hb.mono hb2.size)
  refine ⟨g', _, cap', rfl, ownS_low (ownV_s ho ?_) hb2.size, hb'⟩
  show (((xs.drop 0).take k).map Value.string) ++ ([.string p] ++ (((xs.drop m).take nb).map Value.string ++ [])) = _
  rw [List.map_append, List.map_cons, List.append_nil, List.drop_zero, List.take_of_length_le (l := xs.drop m) (by rw [List.length_drop]; omega)]
  rfl
set_option maxRecDepth 100000 in
set_option maxHeartbeats 3200000 in
theorem putRowS_any (g cap : Nat) (xs : List ByteArray) (p : ByteArray) (w : World) (hf : TextsAt w (some ⟨g, 0, none⟩) g xs.length (tOf xs)) (hr : RisT xs) (hl : xs.length ≤ 100) (hcap : xs.length ≤ cap) :
    Calls Try.prog 63 #[.slice (some ⟨g, 0, none⟩) xs.length cap, .string p, .func (.func 64) #[] #[]] w fun e w' => ∃ g' n cap', e = .returned (.slice (some ⟨g', 0, none⟩) n cap') ∧ OwnS w' w.heap.size 9 g' n cap' (putT xs p) ∧ Below w.heap.size w w' := by
  have HR := hidU hr
  have HF := hidU hf
  obtain ⟨len, hlen⟩ : ∃ len, xs.length = len := ⟨_, rfl⟩
  have HL := hidU hlen
  rw [hlen] at hl hcap ⊢
  clear hf hr hlen
  go_enter Try.func63, Try.ntmps63
  go_wp2_with fail
  have hsr := searchS_any g xs.length cap (tOf xs) p w HF.out (by rw [HL.out]; omega) (ris_monoT HR.out p)
  rw [HL.out] at hsr
  refine hsr.mono ?_
  rintro e w1 ⟨k, b, rfl, hfa, hb1⟩
  clear hsr
  have hkl : k ≤ len := hfa.1
  have FB := hidU hfa.2.2.2
  rw [← HL.out] at hfa
  have FA := hidU (putT_found HR.out hfa)
  have B1 := hidU hb1
  have F1 := hidU (HF.out.later B1.out)
  clear hfa hb1
  have hkc : (k : Int) ≤ (cap : Int) := by omega
  cases b with
  | false =>
    have FA2 : Hid (putT xs p = xs.take k ++ p :: xs.drop k) := FA.out
    clear FA FB HR HF
    go_wp2_with fail
    · have hz : ¬ 0 < len - k := by omega
      refine (concat_putS g _ xs p k k (len - k) _ _ w1 F1.out (by rw [HL.out]; omega) (by rw [HL.out]; omega) (by rw [HL.out]; omega) (fun h => absurd h hz)).mono ?_
      rintro e w3 ⟨g3, n3, cap3, rfl, ho3, hb3⟩
      have O3 := hidU (ownS_low ho3 B1.out.size)
      have B3 := hidU (B1.out.trans (hb3.mono B1.out.size))
      clear ho3 hb3
      go_wp2
      go_ret
      exact ⟨g3, n3, cap3, rfl, by rw [FA2.out]; exact O3.out, B3.out⟩
    · refine (concat_putS g _ xs p k k (len - k) _ _ w1 F1.out (by rw [HL.out]; omega) (by rw [HL.out]; omega) (by rw [HL.out]; omega) (fun _ => rfl)).mono ?_
      rintro e w3 ⟨g3, n3, cap3, rfl, ho3, hb3⟩
      have O3 := hidU (ownS_low ho3 B1.out.size)
      have B3 := hidU (B1.out.trans (hb3.mono B1.out.size))
      clear ho3 hb3
      go_wp2
      go_ret
      exact ⟨g3, n3, cap3, rfl, by rw [FA2.out]; exact O3.out, B3.out⟩
  | true =>
    have FA2 : Hid (putT xs p = xs.take k ++ p :: xs.drop (k + 1)) := FA.out
    have hk1 : k < len := (FB.out.1 rfl).1
    have hcn : ¬ cap = k := by omega
    have hc1 : (1 : Int) ≤ ((cap - k : Nat) : Int) := by omega
    have hc2 : (1 : Int) ≤ ((len - k : Nat) : Int) := by omega
    clear FA FB HR HF
    go_wp2_with fail
    · have hz : ¬ 0 < len - k - 1 := by omega
      refine (concat_putS g _ xs p k (k + 1) (len - k - 1) _ _ w1 F1.out (by rw [HL.out]; omega) (by rw [HL.out]; omega) (by rw [HL.out]; omega) (fun h => absurd h hz)).mono ?_
      rintro e w3 ⟨g3, n3, cap3, rfl, ho3, hb3⟩
      have O3 := hidU (ownS_low ho3 B1.out.size)
      have B3 := hidU (B1.out.trans (hb3.mono B1.out.size))
      clear ho3 hb3
      go_wp2
      go_ret
      exact ⟨g3, n3, cap3, rfl, by rw [FA2.out]; exact O3.out, B3.out⟩
    · refine (concat_putS g _ xs p k (k + 1) (len - k - 1) _ _ w1 F1.out (by rw [HL.out]; omega) (by rw [HL.out]; omega) (by rw [HL.out]; omega) (fun _ => rfl)).mono ?_
      rintro e w3 ⟨g3, n3, cap3, rfl, ho3, hb3⟩
      have O3 := hidU (ownS_low ho3 B1.out.size)
      have B3 := hidU (B1.out.trans (hb3.mono B1.out.size))
      clear ho3 hb3
      go_wp2
      go_ret
      exact ⟨g3, n3, cap3, rfl, by rw [FA2.out]; exact O3.out, B3.out⟩
end Go.Proofs.Ytjofmbgacmdpeaa
namespace Go.Proofs.Ytjofmbgacmdpeaa
open Go.RowKit Go.PlainAid

theorem step_file {P : Program} {ops : Array Oper} {o : Oper} {a : Act} {W : World} {K : Act → World → Prop} {Q : Exit → Act → World → Prop} {E : Prop} (hgd : o.guard = none) (s x : Operand) (t : TypeId)
    (ho : o.op = .call { callee := .builtin .append, args := #[s, x], argTypes := #[t, t] })
    (base : Nat) (e : TypeId) (i : TypeInfo) (z : Value) (ht : P.underlying t = some (.slice e)) (hi : P.info? e = some i) (hz : i.zero = some z) (hsize : i.size = 2) (hby : i.bytes = 32) (hzs : z.cells.size = 2)
    (g n cap : Nat) (fs : List Fl) (hs : a.eval s = .slice (some ⟨g, 0, none⟩) n cap) (hown : OwnFl W base e g n cap fs)
    (gx : Nat) (b : Fl) (hx : a.eval x = .slice (some ⟨gx, 0, none⟩) 1 1) (hg : W.heap[gx]? = some (.cells #[.string b.1, .string b.2] e (0, 0))) (hn : n + 1 ≤ 1000000)
    (h : ∀ g' cap' w', OwnFl w' base e g' (n + 1) cap' (fs ++ [b]) → W.grownBy w' (some g) → (g' = g ∨ W.heap.size ≤ g') → K (a.put o.dst (.slice (some ⟨g', 0, none⟩) (n + 1) cap')) w') :
    if Region.wanted o (yielded ops a.tmps) = true then Oper.wp P o a W K Q else E := by
  have hw : Region.wanted o (yielded ops a.tmps) = true := by simp [Region.wanted, hgd]
  rw [if_pos hw]
  obtain ⟨hb0, hb1⟩ := ownFl_blk hown
  obtain ⟨v', w', hr, h2, h3, _, h5⟩ := run_append_own_at (P := P) W base t o.type e i z 2 32 ht hi hz hsize hby hzs (by decide) _ n _ hown.1 ⟨gx, 0, none⟩ 1 1 (flL b) rfl (by
    intro j u hj
    have e1 : (⟨gx, 0, none⟩ : Addr).add j = ⟨gx, j, none⟩ := by simp [Addr.add]; exact fun h => h.symm
    rw [e1]
    match j, hj with
    | 0, hj => cases hj; simp [World.cell?, hg]
    | 1, hj => cases hj; simp [World.cell?, hg]) (by
    intro u hu
    simp [flL] at hu
    rcases hu with rfl | rfl <;> rfl) (by unfold maxLen; omega) (by omega) (by omega)
  unfold Oper.wp execOp
  simp only [ho, resolve, invoke, builtin, Sem.run_bind, Sem.run_pure, Result.andThen_ok, List.map_toArray, List.map_cons, List.map_nil, hs, hx, hr]
  rcases h2.2 with ⟨hv, hn0⟩ | ⟨g', cap', cur, rfl, hrest⟩
  · omega
  · refine h g' cap' w' ⟨by rw [List.flatMap_append]; simpa using h2, by rw [List.length_append]; have := hown.2; simp; omega⟩ h3 ?_
    have k4 : some g' = some g ∨ some g' = some W.heap.size := h5
    rcases k4 with k | k
    · exact .inl (Option.some.inj k)
    · exact .inr (Nat.le_of_eq (Option.some.inj k).symm)
end Go.Proofs.Ytjofmbgacmdpeaa
