/-
  What impl.piece and impl.ShowFiles answer: the walks.
-/
import Derived.Test.YtdbpknmoacjodaaCfBuilderW
import Derived.Test.YtdbpknmoacjodaaCfImplFiles
import Derived.Test.YtdbpknmoacjodaaCfSpecFilesToSpecShow
import Derived.Lib.AppendIntMem
namespace Go.Proofs.Ytdbpknmoacjodaa
open Go.RowKit Go.PlainAid Go.Sort

theorem piece_impl (s : ByteArray) (w : World) (_ : s.size ≤ 1048576) :
    Calls Try.prog 80 #[.string s] w fun e w' => e = .returned (.string (pieceS s)) ∧ Below w.heap.size w w' := by
  have hv := var_size (s.size : Int)
  have hz : (strOfNums (varL (s.size : Int)) ++ s).size ≤ 2000000 := by rw [ByteArray.size_append]; omega
  go_enter Try.func80, Try.ntmps80
  go_wp2_with fail
  refine (var_impl _ _).mono ?_
  rintro e w1 ⟨rfl, hb⟩
  go_wp2
  go_ret
  exact ⟨rfl, hb⟩
theorem strC_append (a b : ByteArray) : Lib.strCells (a ++ b) = Lib.strCells a ++ Lib.strCells b := by
  unfold Lib.strCells
  rw [ByteArray.data_append, Array.toList_append, List.map_append]
theorem strC_bytes (a : ByteArray) : Lib.byteCells a.data.toList = Lib.strCells a := rfl
theorem str_back (a : ByteArray) : (⟨a.data.toList.toArray⟩ : ByteArray) = a := rfl
structure ShW (b : Nat) (w1 W : World) (T : ByteArray) (gx : Nat) (p t : ByteArray) : Prop where
  bld : Lib.IsBuilder 122 5 b b (Lib.strCells T) W
  box : W.heap[gx]? = some (.cells #[.string p, .string t] 52 (0, 0))
  bel : Below b w1 W
  le : b ≤ w1.heap.size
theorem ShW.later {b gx : Nat} {w1 W W' : World} {T p t : ByteArray} (h : ShW b w1 W T gx p t) (hb : Below W.heap.size W W') : ShW b w1 W' T gx p t :=
  ⟨bldW_later h.bld hb, (hb.block gx (Array.getElem?_eq_some_iff.1 h.box).1).trans h.box, h.bel.trans (hb.mono (Nat.le_trans h.le h.bel.size)), h.le⟩
theorem ShW.cells {b gx : Nat} {w1 W : World} {T p t : ByteArray} (h : ShW b w1 W T gx p t) : W.cell? ⟨gx, 0, none⟩ = some (.string p) ∧ W.cell? ⟨gx, 1, none⟩ = some (.string t) := by
  constructor <;> simp [World.cell?, h.box]
set_option maxRecDepth 100000 in
set_option maxHeartbeats 3200000 in
theorem showFiles_implA (a : Option Addr) (g len cap : Nat) (Pt Tx : Nat → ByteArray) (w : World) (hf : FilesAt w a g 0 len Pt Tx) (hl : len ≤ 1048576) (hp : ∀ j, j < len → (Pt j).size ≤ 1048576) (ht : ∀ j, j < len → (Tx j).size ≤ 1048576) :
    Calls Try.prog 30 #[.slice a len cap] w fun e w' => e = .returned (.string (showS len Pt Tx)) ∧ Below w.heap.size w w' := by
  have HF := hidU hf
  have HP := hidU hp
  have HT := hidU ht
  clear hf hp ht
  cases hfb : filesB len Pt Tx with
  | false =>
    have HV : Hid (showS len Pt Tx = { data := #[] }) := by show showS len Pt Tx = _; rw [showS, hfb]; rfl
    go_enter Try.func30, Try.ntmps30
    go_wp2_with fail
    refine (filesOk_implA _ g len cap Pt Tx _ HF.out hl HP.out HT.out).mono ?_
    rintro e w1 ⟨rfl, hb1⟩
    rw [hfb]
    go_wp2
    go_ret
    exact ⟨ret_str HV.out.symm, hb1⟩
  | true =>
    have HV : Hid (showS len Pt Tx = showTo (headF len) Pt Tx len) := by show showS len Pt Tx = _; rw [showS, hfb]; rfl
    have hsm := files_small hfb
    have HSZ := hidU (showTo_size hfb (headF len))
    have hhd := head_size len
    have hv := var_size (len : Int)
    go_enter Try.func30, Try.ntmps30
    go_wp2_with fail
    refine (filesOk_implA _ g len cap Pt Tx _ HF.out hl HP.out HT.out).mono ?_
    rintro e w1 ⟨rfl, hb1⟩
    rw [hfb]
    have B1 := hidU hb1
    have D1 : Hid (Lib.IsBuilder 122 5 w1.heap.size w1.heap.size [] (w1.alloc (.cells #[.pointer none, .slice none 0 0] 122))) := Lib.fresh_isBuilder _ _ w1
    have A1 : Hid (Below w1.heap.size w1 (w1.alloc (.cells #[.pointer none, .slice none 0 0] 122))) := (Below.refl _ _).alloc (Nat.le_refl _) _
    clear hb1
    go_wp2_with fail
    refine (var_impl _ _).mono ?_
    rintro e w2 ⟨rfl, hb2⟩
    have D2 := hidU (bldW_later D1.out hb2)
    have A2 := hidU (A1.out.trans (hb2.mono A1.out.size))
    have hz1 : (({ data := #[102] } : ByteArray) ++ strOfNums (varL (len : Int))).size ≤ 8 := hhd
    clear hb2 D1 A1
    go_wp2_with fail
    refine (writeString_any w1.heap.size w1.heap.size [] _ _ D2.out (by show 0 + _ ≤ _; omega) A2.out.size).mono ?_
    rintro e w3 ⟨rfl, hb3⟩
    have D3 : Hid (Lib.IsBuilder 122 5 w1.heap.size w1.heap.size (Lib.strCells (headF len)) w3) := .inr hb3.1
    have A3 := hidU (A2.out.trans hb3.2.1)
    clear hb3 D2 A2
    go_wp2
    go_loopw [17, 5] (fun i _ wr => ∃ k : Nat, k ≤ len ∧ i = .int .i64 k ∧ Hid (Lib.IsBuilder 122 5 w1.heap.size w1.heap.size (Lib.strCells (showTo (headF len) Pt Tx k)) wr) ∧ Hid (Below w1.heap.size w1 wr)) (fun i _ _ => (len - intOf i).toNat)
    case atStart => exact ⟨0, Nat.zero_le _, rfl, D3, A3⟩
    case round =>
      obtain ⟨k, hk, rfl, D, A⟩ := hrel
      clear D3 A3
      have BW := hidU (B1.out.trans (A.out.mono B1.out.size))
      by_cases hlt : k < len
      · obtain rfl := HF.out.addr (by omega)
        have hf' := HF.out.later BW.out
        have c0 := hf'.path k hlt
        have c1 := hf'.text k hlt
        rw [Nat.zero_add] at c0 c1
        have hz := HSZ.out k hk
        obtain ⟨hp1, ht1⟩ := hsm.2 k hlt
        have zp := piece_size (Pt k)
        have zt := piece_size (Tx k)
        have HN : Hid (showTo (headF len) Pt Tx (k + 1) = showTo (headF len) Pt Tx k ++ (pieceS (Pt k) ++ pieceS (Tx k))) := by show _ = _; rw [showTo, ByteArray.append_assoc]
        obtain ⟨T, hT⟩ : ∃ T, showTo (headF len) Pt Tx k = T := ⟨_, rfl⟩
        rw [hT] at hz HN D
        clear hT
        have y1 : (pieceS (Pt k) ++ pieceS (Tx k)).size ≤ 100000 := by rw [ByteArray.size_append]; omega
        have y2 : ¬ 9223372036854775807 < (pieceS (Pt k)).size + (pieceS (Tx k)).size := by omega
        obtain ⟨W, hW⟩ : ∃ W, W = wr.alloc (.cells #[.string (Pt k), .string (Tx k)] 52) := ⟨_, rfl⟩
        obtain ⟨gx, hgx⟩ : ∃ gx, gx = wr.heap.size := ⟨_, rfl⟩
        obtain ⟨b, hbe⟩ : ∃ b, b = w1.heap.size := ⟨_, rfl⟩
        have H : Hid (ShW b w1 W.drew T gx (Pt k) (Tx k)) := by
          have h0 : ShW b w1 W T gx (Pt k) (Tx k) := by
            subst hW hgx hbe
            exact ⟨bldW_later D.out ((Below.refl _ _).alloc (Nat.le_refl _) _), heap_alloc_new wr _, A.out.alloc A.out.size _, Nat.le_refl _⟩
          exact h0.later (Below.refl _ _).drew
        have HW := hidU hW
        have HGX := hidU hgx
        have HBE := hidU hbe
        clear hf' hW hgx hbe D A BW
        go_wp2
        rw [← HW.out, ← HGX.out, ← HBE.out]
        clear HW c0 c1
        obtain ⟨x0, x1⟩ := H.out.cells
        go_region_law (first | ((try go_simp); go_wp2_with (first | (go_at_call 80; refine (piece_impl _ _ (by omega)).mono ?_; rintro e w4 ⟨rfl, hb4⟩; have H := hidU (H.out.later hb4); obtain ⟨x0, x1⟩ := H.out.cells; clear hb4) | (go_at_call 78; refine (writeString_any b b _ _ _ H.out.bld (by rw [Lib.strCells_length]; omega) (Nat.le_trans H.out.le H.out.bel.size)).mono ?_; rintro e w5 ⟨rfl, hb5⟩; have D5 : Hid (Lib.IsBuilder 122 5 b b (Lib.strCells (T ++ (pieceS (Pt k) ++ pieceS (Tx k)))) w5) := (.inr (by rw [strC_append]; exact hb5.1)); have A5 := hidU (H.out.bel.trans hb5.2.1); clear hb5))))
        all_goals
          have hbe := HBE.out
          clear HBE
          subst hbe
          go_wp2
          go_roundw
          case rel => exact ⟨k + 1, hlt, by go_num, (by rw [HN.out]; exact D5), A5⟩
          case measure => simp [intOf]; omega
      · obtain rfl : k = len := by omega
        go_wp2_with fail
        refine (Try.Builder_String_any w1.heap.size w1.heap.size (showTo (headF k) Pt Tx k).data.toList wr D.out A.out.size).mono ?_
        rintro e w6 ⟨rfl, hb6⟩
        have B6 := hidU (BW.out.trans (hb6.mono B1.out.size))
        clear hb6
        go_wp2
        go_ret
        exact ⟨ret_str HV.out.symm, B6.out⟩
theorem showFiles_impl (g len cap : Nat) (Pt Tx : Nat → ByteArray) (w : World) (hf : FilesAt w (some ⟨g, 0, none⟩) g 0 len Pt Tx) (hl : len ≤ 1048576) (hp : ∀ j, j < len → (Pt j).size ≤ 1048576) (ht : ∀ j, j < len → (Tx j).size ≤ 1048576) :
    Calls Try.prog 30 #[.slice (some ⟨g, 0, none⟩) len cap] w fun e w' => e = .returned (.string (showS len Pt Tx)) ∧ Below w.heap.size w w' := showFiles_implA _ g len cap Pt Tx w hf hl hp ht
end Go.Proofs.Ytdbpknmoacjodaa
