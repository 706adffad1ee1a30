/-
  slices.Grow of nothing and slices.Concat, at rows of files and at rows of texts: the walks.
-/
import Derived.Test.YtdbpknmoacjodaaCfLawFiles
import Derived.Lib.AppendZeros
import Derived.Test.YtdbpknmoacjodaaCfNumbersMath
import Derived.Test.YtdbpknmoacjodaaCfSpecFilesToSpecShow
import Derived.Deep.CutBlock
namespace Go.Proofs.Ytdbpknmoacjodaa
open Go.RowKit Go.PlainAid Go.Sort

structure RowV where
  ad : Addr
  n : Nat
  cap : Nat
  vs : List Value
def RowV.val (r : RowV) : Value := .slice (some r.ad) r.n r.cap
structure RowV.At (w : World) (size : Nat) (r : RowV) : Prop where
  len : r.vs.length = r.n * size
  cell : ∀ j u, r.vs[j]? = some u → w.cell? (r.ad.add j) = some u
  one : ∀ u ∈ r.vs, u.oneCell' = true
theorem RowV.At.later {w w' : World} {size : Nat} {r : RowV} (h : r.At w size) (hb : Below w.heap.size w w') : r.At w' size :=
  ⟨h.len, fun j u hj => by
    have h1 := h.cell j u hj
    rw [hb.cell (World.block_lt_of_cell? w _ h1)]
    exact h1, h.one⟩
def totV (rs : List RowV) : Nat := (rs.map RowV.n).sum
theorem totV_take {rs : List RowV} {j : Nat} {r : RowV} (h : rs[j]? = some r) : totV (rs.take (j + 1)) = totV (rs.take j) + r.n := by
  obtain ⟨hj, rfl⟩ := List.getElem?_eq_some_iff.1 h
  unfold totV
  rw [List.take_succ_eq_append_getElem hj, List.map_append, List.sum_append]
  simp
theorem totV_le (rs : List RowV) (j : Nat) : totV (rs.take j) ≤ totV rs := by
  have e := congrArg totV (List.take_append_drop j rs)
  unfold totV at e ⊢
  rw [List.map_append, List.sum_append] at e
  omega
theorem flatV_take {rs : List RowV} {j : Nat} {r : RowV} (h : rs[j]? = some r) : (rs.take (j + 1)).flatMap RowV.vs = (rs.take j).flatMap RowV.vs ++ r.vs := by
  obtain ⟨hj, rfl⟩ := List.getElem?_eq_some_iff.1 h
  rw [List.take_succ_eq_append_getElem hj, List.flatMap_append]
  simp
theorem zero_len (z : Array Value) (n : Nat) : (Builtin.zeroCells z n).size = n * z.size := by simp [Builtin.zeroCells]

theorem growF_none (w : World) :
    Calls Try.prog 153 #[.slice none 0 0, .int .i64 0] w fun e w' => e = .returned (.slice none 0 0) ∧ w' = w := by
  go_enter Try.func153, Try.ntmps153
  go_wp2
  go_ret
  exact ⟨rfl, rfl⟩
set_option maxRecDepth 100000 in
theorem growF_some (n : Nat) (w : World) (h0 : 0 < n) (hn : n ≤ 1000) :
    Calls Try.prog 153 #[.slice none 0 0, .int .i64 n] w fun e w' => ∃ cap, e = .returned (.slice (some ⟨w.heap.size, 0, none⟩) 0 cap) ∧ w'.ownsRow w.heap.size 52 2 (.slice (some ⟨w.heap.size, 0, none⟩) 0 cap) 0 [] ∧ Below w.heap.size w w' := by
  obtain ⟨i0, hi, hz0, hz1, hz2⟩ := info_parts Try.infoFile
  have h1 : ¬ ((n : Int) < 0) := by omega
  have h4 : (n : Int) > 0 := by omega
  have hw1 : wrap64 ((n : Int) - 0) = (n : Int) := by unfold wrap64; omega
  obtain ⟨G, hG⟩ : ∃ G, G = grownCap w n 0 52 := ⟨_, rfl⟩
  have hge : n ≤ G := by rw [hG]; exact grownCap_ge w _ _ _
  have hle : G ≤ maxLen := by rw [hG]; exact grownCap_le_maxLen w n 0 52 (by unfold maxLen; omega)
  have hle' : G ≤ 9223372036854775807 := by unfold maxLen at hle; omega
  have hrz : ∀ ty, (Builtin.append_ #[48, 3] ty #[.slice none 0 0, .int .i64 (n : Int)]).run Try.prog w = _ := fun ty => Lib.run_append_nil_zeros w 48 3 ty 52 i0 _ .i64 .i64 Try.underlying48 Try.underlying3 hi hz0 n h0 (by rw [hz1]; decide) (by omega) (by rw [hz2]; omega)
  rw [← hG] at hrz
  have HO : Hid ((w.drew.alloc (.cells (Builtin.zeroCells (.agg #[.string { data := #[] }, .string { data := #[] }] : Value).cells n ++ Builtin.zeroCells (.agg #[.string { data := #[] }, .string { data := #[] }] : Value).cells (G - n)) 52)).ownsRow w.heap.size 52 2 (.slice (some ⟨w.heap.size, 0, none⟩) 0 G) 0 []) := World.ownsRow_made w.drew _ G (Nat.le_refl _) hle (by rw [Array.size_append, zero_len, zero_len]; show n * 2 + (G - n) * 2 = G * 2; omega)
  have HB : Hid (Below w.heap.size w (w.drew.alloc (.cells (Builtin.zeroCells (.agg #[.string { data := #[] }, .string { data := #[] }] : Value).cells n ++ Builtin.zeroCells (.agg #[.string { data := #[] }, .string { data := #[] }] : Value).cells (G - n)) 52))) := (Below.refl _ _).drew.alloc (Nat.le_refl _) _
  clear hG
  go_enter Try.func153, Try.ntmps153
  go_wp2_with (at_builtin; refine Lib.wpList_append_run _ rfl _ _ _ _ rfl _ _ rfl rfl _ _ (hrz _) ?_)
  go_ret
  exact ⟨G, rfl, HO.out, HB.out⟩
set_option maxRecDepth 100000 in
set_option maxHeartbeats 1600000 in
theorem concatF_any (gs : Nat) (rs : List RowV) (w : World) (hg : w.heap[gs]? = some (.cells (rs.map RowV.val).toArray 48 (0, 0))) (hr : ∀ r ∈ rs, r.At w 2) (hn : rs.length ≤ 1000) (ht : totV rs ≤ 1000) :
    Calls Try.prog 93 #[.slice (some ⟨gs, 0, none⟩) rs.length rs.length] w fun e w' => ∃ v, e = .returned v ∧ w'.ownsRow w.heap.size 52 2 v (totV rs) (rs.flatMap RowV.vs) ∧ Below w.heap.size w w' ∧ (0 < totV rs → ∃ g cap, v = .slice (some ⟨g, 0, none⟩) (totV rs) cap) := by
  obtain ⟨i0, hi, hz0, hz1, hz2⟩ := info_parts Try.infoFile
  have hgl : gs < w.heap.size := (Array.getElem?_eq_some_iff.1 hg).1
  have HG : Hid (∀ (wr : World) (j : Nat) (r : RowV), Below w.heap.size w wr → rs[j]? = some r → wr.cell? ⟨gs, j, none⟩ = some (.slice (some r.ad) r.n r.cap)) := fun wr j r hb hj => by
    rw [hb.cell hgl]
    simp [World.cell?, hg, hj, RowV.val]
  have HR := hidU hr
  clear hg hr
  go_enter Try.func93, Try.ntmps93
  go_wp2
  go_loopw [11, 3, 5] (fun i s _ wr => ∃ j : Nat, j ≤ rs.length ∧ i = .int .i64 j ∧ s = .int .i64 (totV (rs.take j) : Nat) ∧ w = wr) (fun i _ _ _ => (rs.length - intOf i).toNat)
  case atStart => exact ⟨0, by omega, rfl, rfl, rfl⟩
  case round =>
    obtain ⟨j, hj, rfl, rfl, rfl⟩ := hrel
    by_cases hlt : j < rs.length
    · obtain ⟨r, hrj⟩ : ∃ r, rs[j]? = some r := ⟨_, List.getElem?_eq_getElem hlt⟩
      have c0 := HG.out _ j r (Below.refl _ _) hrj
      have HT := hidU (totV_take hrj)
      have h1 := totV_le rs (j + 1)
      rw [HT.out] at h1
      obtain ⟨ad, n, cap, vs⟩ := r
      simp only at c0 h1
      obtain ⟨t, ht'⟩ : ∃ t, totV (rs.take j) = t := ⟨_, rfl⟩
      rw [ht'] at h1 ⊢
      have HT2 : Hid (totV (rs.take (j + 1)) = t + n) := by show _ = _; rw [HT.out, ht']
      clear ht' HT
      have q1 : wrap64 ((t : Int) + (n : Int)) = ((t + n : Nat) : Int) := by unfold wrap64; omega
      have q2 : ¬ (((t + n : Nat) : Int) < 0) := by omega
      go_wp2
      go_roundw
      case rel => exact ⟨j + 1, hlt, by go_num, by rw [HT2.out, Int.natCast_add], trivial⟩
      case measure => simp [intOf]; omega
    · have HJ : Hid (totV (rs.take j) = totV rs) := by show _ = _; rw [List.take_of_length_le (by omega)]
      rw [HJ.out]
      have SG : Hid (Calls Try.prog 153 #[.slice none 0 0, .int .i64 (totV rs : Nat)] w fun e w' => ∃ v, e = .returned v ∧ w'.ownsRow w.heap.size 52 2 v 0 [] ∧ Below w.heap.size w w' ∧ (0 < totV rs → v ≠ .slice none 0 0)) := by
        rcases Nat.eq_zero_or_pos (totV rs) with h0 | h0
        · rw [h0]
          refine (growF_none w).mono ?_
          rintro e w1 ⟨rfl, rfl⟩
          exact ⟨_, rfl, World.ownsRow_nil _ _ _ _, Below.refl _ _, fun h => absurd h (Nat.lt_irrefl _)⟩
        · refine (growF_some (totV rs) w h0 ht).mono ?_
          rintro e w1 ⟨cap, rfl, ho, hb⟩
          exact ⟨_, rfl, ho, hb, fun _ h => by simp at h⟩
      go_wp2_with fail
      refine SG.out.mono ?_
      rintro e w1 ⟨v1, rfl, ho1, hb1, hv1⟩
      have O1 := hidU ho1
      have B1 := hidU hb1
      have V1 := hidU hv1
      clear ho1 hb1 hv1
      go_wp2
      go_loopw [27, 6, 8] (fun i v _ wr => ∃ j : Nat, j ≤ rs.length ∧ i = .int .i64 j ∧ wr.ownsRow w.heap.size 52 2 v (totV (rs.take j)) ((rs.take j).flatMap RowV.vs) ∧ Below w.heap.size w wr ∧ (0 < totV rs → v ≠ .slice none 0 0)) (fun i _ _ _ => (rs.length - intOf i).toNat)
      case atStart => exact ⟨0, by omega, rfl, O1.out, B1.out, V1.out⟩
      case round =>
        obtain ⟨j, hj, rfl, ho, hb, hv⟩ := hrel
        have O2 := hidU ho
        have B2 := hidU hb
        have V2 := hidU hv
        clear ho hb hv
        by_cases hlt : j < rs.length
        · obtain ⟨r, hrj⟩ : ∃ r, rs[j]? = some r := ⟨_, List.getElem?_eq_getElem hlt⟩
          have c0 := HG.out _ j r B2.out hrj
          have HA := hidU ((HR.out r (List.mem_of_getElem? hrj)).later B2.out)
          have HT := hidU (totV_take hrj)
          have HF := hidU (flatV_take hrj)
          have h1 := totV_le rs (j + 1)
          rw [HT.out] at h1
          obtain ⟨ad, n, cap, vs⟩ := r
          simp only at c0 h1
          have HL := hidU B2.out.size
          go_wp2_with (at_builtin; refine wpList_append_own_at wr rfl _ _ 48 rfl w.heap.size 52 i0 _ 2 32 Try.underlying48 hi hz0 hz1 hz2 rfl (by decide) _ _ _ (by rfl) O2.out ad n cap vs (by rfl) HA.out.len HA.out.cell HA.out.one (by unfold maxLen; omega) (by omega) HL.out ?_; intro v3 w3 ho3 hg3 hn3 _)
          go_roundw
          case rel => exact ⟨j + 1, hlt, by go_num, by rw [HT.out, HF.out]; exact ho3, B2.out.grown hg3 B2.out.size (own_block_ge O2.out), fun h0 e => V2.out h0 (hn3.1 e).1⟩
          case measure => simp [intOf]; omega
        · have HE : Hid (rs.take j = rs) := List.take_of_length_le (by omega)
          have O3 := hidU O2.out
          rw [HE.out] at O3
          go_wp2
          go_ret
          refine ⟨_, rfl, O3.out, B2.out, fun h0 => ?_⟩
          rcases O3.out.2 with ⟨h', _⟩ | ⟨g', cap', cur, h', _⟩
          · exact absurd h' (V2.out h0)
          · exact ⟨g', cap', h'⟩

theorem growS_none (w : World) :
    Calls Try.prog 187 #[.slice none 0 0, .int .i64 0] w fun e w' => e = .returned (.slice none 0 0) ∧ w' = w := by
  go_enter Try.func187, Try.ntmps187
  go_wp2
  go_ret
  exact ⟨rfl, rfl⟩
set_option maxRecDepth 100000 in
theorem growS_some (n : Nat) (w : World) (h0 : 0 < n) (hn : n ≤ 1000) :
    Calls Try.prog 187 #[.slice none 0 0, .int .i64 n] w fun e w' => ∃ cap, e = .returned (.slice (some ⟨w.heap.size, 0, none⟩) 0 cap) ∧ w'.ownsRow w.heap.size 9 1 (.slice (some ⟨w.heap.size, 0, none⟩) 0 cap) 0 [] ∧ Below w.heap.size w w' := by
  obtain ⟨i0, hi, hz0, hz1, hz2⟩ := info_parts Try.infoStr
  have h1 : ¬ ((n : Int) < 0) := by omega
  have h4 : (n : Int) > 0 := by omega
  have hw1 : wrap64 ((n : Int) - 0) = (n : Int) := by unfold wrap64; omega
  obtain ⟨G, hG⟩ : ∃ G, G = grownCap w n 0 9 := ⟨_, rfl⟩
  have hge : n ≤ G := by rw [hG]; exact grownCap_ge w _ _ _
  have hle : G ≤ maxLen := by rw [hG]; exact grownCap_le_maxLen w n 0 9 (by unfold maxLen; omega)
  have hle' : G ≤ 9223372036854775807 := by unfold maxLen at hle; omega
  have hrz : ∀ ty, (Builtin.append_ #[22, 3] ty #[.slice none 0 0, .int .i64 (n : Int)]).run Try.prog w = _ := fun ty => Lib.run_append_nil_zeros w 22 3 ty 9 i0 _ .i64 .i64 Try.underlying22 Try.underlying3 hi hz0 n h0 (by rw [hz1]; decide) (by omega) (by rw [hz2]; omega)
  rw [← hG] at hrz
  have HO : Hid ((w.drew.alloc (.cells (Builtin.zeroCells (.string { data := #[] } : Value).cells n ++ Builtin.zeroCells (.string { data := #[] } : Value).cells (G - n)) 9)).ownsRow w.heap.size 9 1 (.slice (some ⟨w.heap.size, 0, none⟩) 0 G) 0 []) := World.ownsRow_made w.drew _ G (Nat.le_refl _) hle (by rw [Array.size_append, zero_len, zero_len]; show n * 1 + (G - n) * 1 = G * 1; omega)
  have HB : Hid (Below w.heap.size w (w.drew.alloc (.cells (Builtin.zeroCells (.string { data := #[] } : Value).cells n ++ Builtin.zeroCells (.string { data := #[] } : Value).cells (G - n)) 9))) := (Below.refl _ _).drew.alloc (Nat.le_refl _) _
  clear hG
  go_enter Try.func187, Try.ntmps187
  go_wp2_with (at_builtin; refine Lib.wpList_append_run _ rfl _ _ _ _ rfl _ _ rfl rfl _ _ (hrz _) ?_)
  go_ret
  exact ⟨G, rfl, HO.out, HB.out⟩
set_option maxRecDepth 100000 in
set_option maxHeartbeats 1600000 in
theorem concatS_any (gs : Nat) (rs : List RowV) (w : World) (hg : w.heap[gs]? = some (.cells (rs.map RowV.val).toArray 22 (0, 0))) (hr : ∀ r ∈ rs, r.At w 1) (hn : rs.length ≤ 1000) (ht : totV rs ≤ 1000) :
    Calls Try.prog 156 #[.slice (some ⟨gs, 0, none⟩) rs.length rs.length] w fun e w' => ∃ v, e = .returned v ∧ w'.ownsRow w.heap.size 9 1 v (totV rs) (rs.flatMap RowV.vs) ∧ Below w.heap.size w w' ∧ (0 < totV rs → ∃ g cap, v = .slice (some ⟨g, 0, none⟩) (totV rs) cap) := by
  obtain ⟨i0, hi, hz0, hz1, hz2⟩ := info_parts Try.infoStr
  have hgl : gs < w.heap.size := (Array.getElem?_eq_some_iff.1 hg).1
  have HG : Hid (∀ (wr : World) (j : Nat) (r : RowV), Below w.heap.size w wr → rs[j]? = some r → wr.cell? ⟨gs, j, none⟩ = some (.slice (some r.ad) r.n r.cap)) := fun wr j r hb hj => by
    rw [hb.cell hgl]
    simp [World.cell?, hg, hj, RowV.val]
  have HR := hidU hr
  clear hg hr
  go_enter Try.func156, Try.ntmps156
  go_wp2
  go_loopw [11, 3, 5] (fun i s _ wr => ∃ j : Nat, j ≤ rs.length ∧ i = .int .i64 j ∧ s = .int .i64 (totV (rs.take j) : Nat) ∧ w = wr) (fun i _ _ _ => (rs.length - intOf i).toNat)
  case atStart => exact ⟨0, by omega, rfl, rfl, rfl⟩
  case round =>
    obtain ⟨j, hj, rfl, rfl, rfl⟩ := hrel
    by_cases hlt : j < rs.length
    · obtain ⟨r, hrj⟩ : ∃ r, rs[j]? = some r := ⟨_, List.getElem?_eq_getElem hlt⟩
      have c0 := HG.out _ j r (Below.refl _ _) hrj
      have HT := hidU (totV_take hrj)
      have h1 := totV_le rs (j + 1)
      rw [HT.out] at h1
      obtain ⟨ad, n, cap, vs⟩ := r
      simp only at c0 h1
      obtain ⟨t, ht'⟩ : ∃ t, totV (rs.take j) = t := ⟨_, rfl⟩
      rw [ht'] at h1 ⊢
      have HT2 : Hid (totV (rs.take (j + 1)) = t + n) := by show _ = _; rw [HT.out, ht']
      clear ht' HT
      have q1 : wrap64 ((t : Int) + (n : Int)) = ((t + n : Nat) : Int) := by unfold wrap64; omega
      have q2 : ¬ (((t + n : Nat) : Int) < 0) := by omega
      go_wp2
      go_roundw
      case rel => exact ⟨j + 1, hlt, by go_num, by rw [HT2.out, Int.natCast_add], trivial⟩
      case measure => simp [intOf]; omega
    · have HJ : Hid (totV (rs.take j) = totV rs) := by show _ = _; rw [List.take_of_length_le (by omega)]
      rw [HJ.out]
      have SG : Hid (Calls Try.prog 187 #[.slice none 0 0, .int .i64 (totV rs : Nat)] w fun e w' => ∃ v, e = .returned v ∧ w'.ownsRow w.heap.size 9 1 v 0 [] ∧ Below w.heap.size w w' ∧ (0 < totV rs → v ≠ .slice none 0 0)) := by
        rcases Nat.eq_zero_or_pos (totV rs) with h0 | h0
        · rw [h0]
          refine (growS_none w).mono ?_
          rintro e w1 ⟨rfl, rfl⟩
          exact ⟨_, rfl, World.ownsRow_nil _ _ _ _, Below.refl _ _, fun h => absurd h (Nat.lt_irrefl _)⟩
        · refine (growS_some (totV rs) w h0 ht).mono ?_
          rintro e w1 ⟨cap, rfl, ho, hb⟩
          exact ⟨_, rfl, ho, hb, fun _ h => by simp at h⟩
      go_wp2_with fail
      refine SG.out.mono ?_
      rintro e w1 ⟨v1, rfl, ho1, hb1, hv1⟩
      have O1 := hidU ho1
      have B1 := hidU hb1
      have V1 := hidU hv1
      clear ho1 hb1 hv1
      go_wp2
      go_loopw [27, 6, 8] (fun i v _ wr => ∃ j : Nat, j ≤ rs.length ∧ i = .int .i64 j ∧ wr.ownsRow w.heap.size 9 1 v (totV (rs.take j)) ((rs.take j).flatMap RowV.vs) ∧ Below w.heap.size w wr ∧ (0 < totV rs → v ≠ .slice none 0 0)) (fun i _ _ _ => (rs.length - intOf i).toNat)
      case atStart => exact ⟨0, by omega, rfl, O1.out, B1.out, V1.out⟩
      case round =>
        obtain ⟨j, hj, rfl, ho, hb, hv⟩ := hrel
        have O2 := hidU ho
        have B2 := hidU hb
        have V2 := hidU hv
        clear ho hb hv
        by_cases hlt : j < rs.length
        · obtain ⟨r, hrj⟩ : ∃ r, rs[j]? = some r := ⟨_, List.getElem?_eq_getElem hlt⟩
          have c0 := HG.out _ j r B2.out hrj
          have HA := hidU ((HR.out r (List.mem_of_getElem? hrj)).later B2.out)
          have HT := hidU (totV_take hrj)
          have HF := hidU (flatV_take hrj)
          have h1 := totV_le rs (j + 1)
          rw [HT.out] at h1
          obtain ⟨ad, n, cap, vs⟩ := r
          simp only at c0 h1
          have HL := hidU B2.out.size
          go_wp2_with (at_builtin; refine wpList_append_own_at wr rfl _ _ 22 rfl w.heap.size 9 i0 _ 1 16 Try.underlying22 hi hz0 hz1 hz2 rfl (by decide) _ _ _ (by rfl) O2.out ad n cap vs (by rfl) HA.out.len HA.out.cell HA.out.one (by unfold maxLen; omega) (by omega) HL.out ?_; intro v3 w3 ho3 hg3 hn3 _)
          go_roundw
          case rel => exact ⟨j + 1, hlt, by go_num, by rw [HT.out, HF.out]; exact ho3, B2.out.grown hg3 B2.out.size (own_block_ge O2.out), fun h0 e => V2.out h0 (hn3.1 e).1⟩
          case measure => simp [intOf]; omega
        · have HE : Hid (rs.take j = rs) := List.take_of_length_le (by omega)
          have O3 := hidU O2.out
          rw [HE.out] at O3
          go_wp2
          go_ret
          refine ⟨_, rfl, O3.out, B2.out, fun h0 => ?_⟩
          rcases O3.out.2 with ⟨h', _⟩ | ⟨g', cap', cur, h', _⟩
          · exact absurd h' (V2.out h0)
          · exact ⟨g', cap', h'⟩
end Go.Proofs.Ytdbpknmoacjodaa
