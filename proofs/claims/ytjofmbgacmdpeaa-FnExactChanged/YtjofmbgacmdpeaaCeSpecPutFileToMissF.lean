/-
  What spec.PutFile answers: the walk.
  What slices.Index and slices.Contains answer at files, and impl.missingFrom, the model's == of files handed in: the walks.
-/
import Derived.Deep.CutBlock
import Derived.Test.YtjofmbgacmdpeaaCeLawFilesToLawFilesM
import Derived.Test.YtjofmbgacmdpeaaCeCandMath
import Derived.Test.YtjofmbgacmdpeaaCeFilesLawToEqF
namespace Go.Proofs.Ytjofmbgacmdpeaa
open Go.RowKit Go.PlainAid Go.Sort

structure PutW (w wr : World) (e : TypeId) (g n cap : Nat) (out : List Fl) (gx : Nat) (x : Fl) : Prop where
  out : OwnFl wr w.heap.size e g n cap out
  box : wr.heap[gx]? = some (.cells #[.string x.1, .string x.2] e (0, 0))
  ne : g ≠ gx
  bel : Below w.heap.size w wr
theorem PutW.later {w wr W : World} {e : TypeId} {g n cap gx : Nat} {out : List Fl} {x : Fl} (h : PutW w wr e g n cap out gx x) (hb : Below wr.heap.size wr W) : PutW w W e g n cap out gx x :=
  ⟨ownFl_later h.out hb, (hb.block gx (Array.getElem?_eq_some_iff.1 h.box).1).trans h.box, h.ne, h.bel.trans (hb.mono h.bel.size)⟩
theorem PutW.grow {w wr W : World} {e : TypeId} {g n cap gx g' cap' : Nat} {out ys : List Fl} {x : Fl} (h : PutW w wr e g n cap out gx x) (ho : OwnFl W w.heap.size e g' (n + 1) cap' ys) (k : wr.grownBy W (some g)) (hg : g' = g ∨ wr.heap.size < g') : PutW w W e g' (n + 1) cap' ys gx x := by
  have hx := (Array.getElem?_eq_some_iff.1 h.box).1
  refine ⟨ho, (k.block gx hx (fun e => h.ne (Option.some.inj e).symm)).trans h.box, ?_, h.bel.grown k h.bel.size (fun j hj => by cases hj; exact (ownFl_blk h.out).1)⟩
  rcases hg with rfl | hg
  · exact h.ne
  · omega
theorem PutW.cells {w wr : World} {e : TypeId} {g n cap gx : Nat} {out : List Fl} {x : Fl} (h : PutW w wr e g n cap out gx x) : wr.cell? ⟨gx, 0, none⟩ = some (.string x.1) ∧ wr.cell? ⟨gx, 1, none⟩ = some (.string x.2) ∧ gx < wr.heap.size := by
  refine ⟨?_, ?_, (Array.getElem?_eq_some_iff.1 h.box).1⟩
  · simp [World.cell?, h.box]
  · simp [World.cell?, h.box]
end Go.Proofs.Ytjofmbgacmdpeaa
namespace Go.Proofs.Ytjofmbgacmdpeaa
open Go.RowKit Go.PlainAid Go.Sort

def EqlC : Prop := ∀ (p t q u : ByteArray) (W : World), Sem.run Try.prog (binOp .eql 33 (.agg #[.string p, .string t]) (.agg #[.string q, .string u])) W = .ok (.bool (eqF p t q u)) W
def GrdC : Prop := ∀ (op : BinOp) (a b : Operand) (p t q u : ByteArray) (W : World), Sem.run Try.prog (eqGuard op 33 a b (.agg #[.string p, .string t]) (.agg #[.string q, .string u])) W = .ok () W
theorem boxM_later {w W : World} {gx : Nat} {o : Obj} (h : w.heap[gx]? = some o) (hb : Below w.heap.size w W) : W.heap[gx]? = some o := (hb.block gx (Array.getElem?_eq_some_iff.1 h).1).trans h
theorem has_snoc {len k : Nat} {Pt Tx : Nat → ByteArray} {x : Fl} (h : k < len) : hasF ((flsOf len Pt Tx).take (k + 1)) x = (hasF ((flsOf len Pt Tx).take k) x || eqF x.1 x.2 (Pt k) (Tx k)) := by
  rw [take_snoc (flsOf_at h)]
  unfold hasF
  rw [List.any_append]
  simp
theorem has_more {fs : List Fl} {x : Fl} {k : Nat} (h : hasF (fs.take k) x = true) : hasF fs x = true := hasF_iff.2 (List.mem_of_mem_take (hasF_iff.1 h))
set_option maxRecDepth 100000 in
set_option maxHeartbeats 1600000 in
theorem indexEq_with (heq : EqlC) (hgd : GrdC) (g len cap : Nat) (Pt Tx : Nat → ByteArray) (p t : ByteArray) (w : World) (hf : FilesAt w (some ⟨g, 0, none⟩) g 0 len Pt Tx) (hl : len ≤ 1000) :
    Calls Try.prog 95 #[.slice (some ⟨g, 0, none⟩) len cap, .agg #[.string p, .string t]] w fun e w' => (∃ k : Int, e = .returned (.int .i64 k) ∧ decide (0 ≤ k) = hasF (flsOf len Pt Tx) (p, t)) ∧ Below w.heap.size w w' := by
  have HF := hidU hf
  have X0 : Hid ((w.alloc (.cells #[.string p, .string t] 33)).heap[w.heap.size]? = some (.cells #[.string p, .string t] 33 (0, 0))) := heap_alloc_new w _
  have A0 : Hid (Below w.heap.size w (w.alloc (.cells #[.string p, .string t] 33))) := (Below.refl _ _).alloc (Nat.le_refl _) _
  unfold EqlC at heq
  unfold GrdC at hgd
  clear hf
  go_enter Try.func95, Try.ntmps95
  go_wp2
  go_loopw [8, 5] (fun i _ wr => ∃ k : Nat, k ≤ len ∧ i = .int .i64 k ∧ Hid (hasF ((flsOf len Pt Tx).take k) (p, t) = false) ∧ Hid (wr.heap[w.heap.size]? = some (.cells #[.string p, .string t] 33 (0, 0))) ∧ Hid (Below w.heap.size w wr)) (fun i _ _ => (len - intOf i).toNat)
  case atStart => exact ⟨0, Nat.zero_le _, rfl, hidU rfl, X0, A0⟩
  case round =>
    obtain ⟨k, hk, rfl, HN, X, B⟩ := hrel
    clear X0 A0
    by_cases hlt : k < len
    · have hf' := HF.out.later B.out
      have c0 := hf'.path k hlt
      have c1 := hf'.text k hlt
      rw [Nat.zero_add] at c0 c1
      have b0 : wr.cell? ⟨w.heap.size, 0, none⟩ = some (.string p) := by simp [World.cell?, X.out]
      have b1 : wr.cell? ⟨w.heap.size, 1, none⟩ = some (.string t) := by simp [World.cell?, X.out]
      have HS := hidU (has_snoc (Pt := Pt) (Tx := Tx) (x := (p, t)) hlt)
      clear hf'
      cases he : eqF p t (Pt k) (Tx k) with
      | true =>
        have HV : Hid (hasF (flsOf len Pt Tx) (p, t) = true) := has_more (k := k + 1) (by rw [HS.out]; show (_ || eqF p t (Pt k) (Tx k)) = true; rw [he, Bool.or_true])
        go_wp2
        go_region
        all_goals
          go_wp2
          go_ret
          exact ⟨⟨(k : Int), rfl, by rw [HV.out]; exact decide_eq_true (by omega)⟩, B.out.drew⟩
      | false =>
        have HX : Hid (hasF ((flsOf len Pt Tx).take (k + 1)) (p, t) = false) := by show _ = _; rw [HS.out, HN.out]; exact he
        go_wp2
        go_region
        all_goals
          go_wp2
          go_roundw
          case rel => exact ⟨k + 1, hlt, by go_num, HX, X, hidU B.out.drew⟩
          case measure => simp [intOf]; omega
    · have HV : Hid (hasF (flsOf len Pt Tx) (p, t) = false) := by
        have h := HN.out
        rw [List.take_of_length_le (by rw [flsOf_len]; omega)] at h
        exact h
      go_wp2
      go_ret
      exact ⟨⟨-1, rfl, by rw [HV.out]; rfl⟩, B.out⟩
set_option maxRecDepth 100000 in
theorem contains_with (heq : EqlC) (hgd : GrdC) (g len cap : Nat) (Pt Tx : Nat → ByteArray) (p t : ByteArray) (w : World) (hf : FilesAt w (some ⟨g, 0, none⟩) g 0 len Pt Tx) (hl : len ≤ 1000) :
    Calls Try.prog 85 #[.slice (some ⟨g, 0, none⟩) len cap, .agg #[.string p, .string t]] w fun e w' => e = .returned (.bool (hasF (flsOf len Pt Tx) (p, t))) ∧ Below w.heap.size w w' := by
  have A0 : Hid (Below w.heap.size w (w.alloc (.cells #[.string p, .string t] 33))) := (Below.refl _ _).alloc (Nat.le_refl _) _
  have F0 := hidU (hf.later A0.out)
  clear hf
  go_enter Try.func85, Try.ntmps85
  go_wp2_with fail
  refine (indexEq_with heq hgd g len cap Pt Tx p t _ F0.out hl).mono ?_
  rintro e w1 ⟨⟨k, rfl, hk⟩, hb1⟩
  have HK := hidU hk
  have B1 := hidU (A0.out.trans (hb1.mono A0.out.size))
  clear hk hb1
  go_wp2
  go_ret
  exact ⟨ret_bool HK.out, B1.out⟩
theorem miss_snoc {L : List Fl} {len k : Nat} {Pt Tx : Nat → ByteArray} (h : k < len) : missL L ((flsOf len Pt Tx).take (k + 1)) = missL L ((flsOf len Pt Tx).take k) ++ if hasF L (Pt k, Tx k) then [] else [(Pt k, Tx k)] := by
  rw [take_snoc (flsOf_at h)]
  unfold missL
  rw [List.filter_append]
  congr 1
  cases hx : hasF L (Pt k, Tx k) <;> simp [hx]
theorem missL_len (L l : List Fl) : (missL L l).length ≤ l.length := List.length_filter_le _ _
set_option maxRecDepth 100000 in
set_option maxHeartbeats 1600000 in
theorem missing_with (heq : EqlC) (hgd : GrdC) (g1 l1 c1 : Nat) (P1 T1 : Nat → ByteArray) (g2 l2 c2 : Nat) (P2 T2 : Nat → ByteArray) (w : World) (hf1 : FilesAt w (some ⟨g1, 0, none⟩) g1 0 l1 P1 T1) (hf2 : FilesAt w (some ⟨g2, 0, none⟩) g2 0 l2 P2 T2) (hl1 : l1 ≤ 1000) (hl2 : l2 ≤ 1000) :
    Calls Try.prog 62 #[.slice (some ⟨g1, 0, none⟩) l1 c1, .slice (some ⟨g2, 0, none⟩) l2 c2] w fun e w' => ∃ g n cap, e = .returned (.slice (some ⟨g, 0, none⟩) n cap) ∧ OwnFl w' w.heap.size 33 g n cap (missL (flsOf l1 P1 T1) (flsOf l2 P2 T2)) ∧ Below w.heap.size w w' := by
  obtain ⟨i0, hi, hz0, hz1, hz2⟩ := info_parts Try.infoFile
  have H1 := hidU hf1
  have H2 := hidU hf2
  have HQ := hidU (heq)
  have HG := hidU (hgd)
  have O0 := hidU (ownFl_nil w 33)
  have B0 : Hid (Below w.heap.size w (w.alloc (.cells #[] 33))) := (Below.refl _ _).alloc (Nat.le_refl _) _
  clear hf1 hf2 heq hgd
  go_enter Try.func62, Try.ntmps62
  go_wp2
  go_loopw [11, 5, 7] (fun i o _ wr => ∃ (k g n cap : Nat), k ≤ l2 ∧ i = .int .i64 k ∧ o = .slice (some ⟨g, 0, none⟩) n cap ∧ Hid (OwnFl wr w.heap.size 33 g n cap (missL (flsOf l1 P1 T1) ((flsOf l2 P2 T2).take k))) ∧ Hid (Below w.heap.size w wr)) (fun i _ _ _ => (l2 - intOf i).toNat)
  case atStart => exact ⟨0, w.heap.size, 0, 0, Nat.zero_le _, rfl, rfl, O0, B0⟩
  case round =>
    clear O0 B0
    obtain ⟨k, g, n, cap, hk, rfl, rfl, O, B⟩ := hrel
    by_cases hlt : k < l2
    · have hf' := H2.out.later B.out
      have x0 := hf'.path k hlt
      have x1 := hf'.text k hlt
      rw [Nat.zero_add] at x0 x1
      have hn : n ≤ 1000 := by
        rw [O.out.2]
        refine Nat.le_trans (missL_len _ _) ?_
        rw [List.length_take, flsOf_len]
        omega
      have W0 : Hid (PutW w (wr.alloc (.cells #[.string (P2 k), .string (T2 k)] 33)) 33 g n cap (missL (flsOf l1 P1 T1) ((flsOf l2 P2 T2).take k)) wr.heap.size (P2 k, T2 k)) := ⟨ownFl_later O.out ((Below.refl _ _).alloc (Nat.le_refl _) _), heap_alloc_new wr _, Nat.ne_of_lt (ownFl_blk O.out).2, B.out.alloc B.out.size _⟩
      have HS := hidU (miss_snoc (L := flsOf l1 P1 T1) (Pt := P2) (Tx := T2) hlt)
      have F1 := hidU (H1.out.later W0.out.bel)
      clear hf' O B
      go_wp2_with fail
      refine (contains_with HQ.out HG.out g1 l1 c1 P1 T1 (P2 k) (T2 k) _ F1.out hl1).mono ?_
      rintro e w2 ⟨rfl, hb2⟩
      have W2 := hidU (W0.out.later hb2)
      obtain ⟨b0, b1, b2⟩ := W2.out.cells
      clear hb2 W0 F1 x0 x1
      cases hh : hasF (flsOf l1 P1 T1) (P2 k, T2 k) with
      | true =>
        have HE : Hid (missL (flsOf l1 P1 T1) ((flsOf l2 P2 T2).take (k + 1)) = missL (flsOf l1 P1 T1) ((flsOf l2 P2 T2).take k)) := by show _ = _; rw [HS.out, hh]; simp
        go_wp2
        go_roundw
        case rel => exact ⟨k + 1, g, n, cap, hlt, by go_num, rfl, hidU (by rw [HE.out]; exact W2.out.out), hidU W2.out.bel⟩
        case measure => simp [intOf]; omega
      | false =>
        have HE : Hid (missL (flsOf l1 P1 T1) ((flsOf l2 P2 T2).take (k + 1)) = missL (flsOf l1 P1 T1) ((flsOf l2 P2 T2).take k) ++ [(P2 k, T2 k)]) := by show _ = _; rw [HS.out, hh]; rfl
        go_wp2_with (at_builtin; refine app_file w2 rfl _ _ 24 rfl w.heap.size 33 i0 _ Try.underlying24 hi hz0 hz1 hz2 rfl g n cap _ (by rfl) W2.out.out (P2 k, T2 k) (by rfl) (by omega) ?_; intro g3 cap3 w3 ho3 hg3 hat3)
        go_roundw
        case rel => exact ⟨k + 1, g3, n + 1, cap3, hlt, by go_num, rfl, hidU (by rw [HE.out]; exact ho3), hidU (W2.out.bel.grown hg3 W2.out.bel.size (fun j hj => by cases hj; exact (ownFl_blk W2.out.out).1))⟩
        case measure => simp [intOf]; omega
    · have HE : Hid ((flsOf l2 P2 T2).take k = flsOf l2 P2 T2) := List.take_of_length_le (by rw [flsOf_len]; omega)
      go_wp2
      go_ret
      exact ⟨g, n, cap, rfl, by have := O.out; rw [HE.out] at this; exact this, B.out⟩
end Go.Proofs.Ytjofmbgacmdpeaa
