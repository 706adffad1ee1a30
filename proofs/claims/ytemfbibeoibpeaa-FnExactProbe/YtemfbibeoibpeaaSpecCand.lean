/-
  What spec.Candidates answers: the walk.
-/
import Derived.Test.YtemfbibeoibpeaaCandMath
import Derived.Test.YtemfbibeoibpeaaSpecUp
import Derived.Test.YtemfbibeoibpeaaSpecIn
import Derived.BigRegion
import Derived.Deep.CutBlock
import Derived.Deep.DeepCutAuto
namespace Go.Proofs.Ytemfbibeoibpeaa
open Go.RowKit Go.PlainAid

structure TwoS (w wr : World) (e : TypeId) (g n cap : Nat) (xs : List ByteArray) (gb nb capb : Nat) (bs : List ByteArray) : Prop where
  out : OwnS wr w.heap.size e g n cap xs
  bas : OwnS wr w.heap.size e gb nb capb bs
  ne : g ≠ gb
  bel : Below w.heap.size w wr
theorem TwoS.later {w wr W : World} {e : TypeId} {g n cap gb nb capb : Nat} {xs bs : List ByteArray} (h : TwoS w wr e g n cap xs gb nb capb bs) (hb : Below wr.heap.size wr W) : TwoS w W e g n cap xs gb nb capb bs :=
  ⟨ownS_later h.out hb, ownS_later h.bas hb, h.ne, h.bel.trans (hb.mono h.bel.size)⟩
theorem below_gb {w wr W : World} {g : Nat} (h : Below w.heap.size w wr) (hg : w.heap.size ≤ g) (k : wr.grownBy W (some g)) : Below w.heap.size w W :=
  h.grown k h.size (fun j hj => by cases hj; exact hg)
theorem TwoS.grow {w wr W : World} {e : TypeId} {g n cap gb nb capb g' cap' : Nat} {xs ys bs : List ByteArray} (h : TwoS w wr e g n cap xs gb nb capb bs) (ho : OwnS W w.heap.size e g' (n + 1) cap' ys) (k : wr.grownBy W (some g)) (hg : g' = g ∨ wr.heap.size < g') : TwoS w W e g' (n + 1) cap' ys gb nb capb bs := by
  have hb := ownS_blk h.bas
  refine ⟨ho, ownS_keep h.bas (k.block gb hb.2 (fun e => h.ne (Option.some.inj e).symm)), ?_, below_gb h.bel (ownS_blk h.out).1 k⟩
  rcases hg with rfl | hg
  · exact h.ne
  · omega
theorem TwoS.base {w wr W : World} {e : TypeId} {g n cap gb nb capb g' cap' : Nat} {xs ys bs : List ByteArray} (h : TwoS w wr e g n cap xs gb nb capb bs) (ho : OwnS W w.heap.size e g' (nb + 1) cap' ys) (k : wr.grownBy W (some gb)) (hg : g' = gb ∨ wr.heap.size < g') : TwoS w W e g n cap xs g' (nb + 1) cap' ys := by
  have hb := ownS_blk h.out
  refine ⟨ownS_keep h.out (k.block g hb.2 (fun e => h.ne (Option.some.inj e))), ho, ?_, below_gb h.bel (ownS_blk h.bas).1 k⟩
  rcases hg with rfl | hg
  · exact h.ne
  · omega
theorem two_start (w : World) (e : TypeId) : TwoS w ((w.alloc (.cells #[] e)).alloc (.cells #[] e)) e w.heap.size 0 0 [] (w.heap.size + 1) 0 0 [] := by
  have hs : (w.alloc (.cells #[] e)).heap.size = w.heap.size + 1 := by show (w.heap.push _).size = _; simp
  have b1 : Below w.heap.size w (w.alloc (.cells #[] e)) := (Below.refl _ _).alloc (Nat.le_refl _) _
  have o1 : OwnS (w.alloc (.cells #[] e)) w.heap.size e w.heap.size 0 0 [] := ⟨World.ownsRow_lit w #[] 0 (Nat.le_refl _) (by unfold maxLen; omega) rfl, rfl⟩
  have o2 : OwnS ((w.alloc (.cells #[] e)).alloc (.cells #[] e)) (w.alloc (.cells #[] e)).heap.size e (w.alloc (.cells #[] e)).heap.size 0 0 [] := ⟨World.ownsRow_lit _ #[] 0 (Nat.le_refl _) (by unfold maxLen; omega) rfl, rfl⟩
  rw [hs] at o2
  exact ⟨ownS_later o1 ((Below.refl _ _).alloc (Nat.le_refl _) _), ownS_low o2 (by omega), by omega, b1.alloc b1.size _⟩
set_option maxRecDepth 100000 in
set_option maxHeartbeats 6400000 in
theorem cand_spec (f sp : ByteArray) (w : World) (hf : f.size ≤ 1048576) (hs : sp.size ≤ 1048576) :
    Calls Try.prog 18 #[.string f, .string sp] w fun e w' => ∃ g n cap, e = .returned (.slice (some ⟨g, 0, none⟩) n cap) ∧ OwnS w' w.heap.size 9 g n cap (candS f sp) ∧ Below w.heap.size w w' := by
  obtain ⟨i0, hi, hz0, hz1, hz2⟩ := info_parts Try.infoStr
  cases hp : pathB f with
  | false =>
    have HR : Hid (candS f sp = []) := by show candS f sp = []; rw [candS, hp]; rfl
    have O0 : Hid (OwnS (w.alloc (.cells #[] 9)) w.heap.size 9 w.heap.size 0 0 []) := ⟨World.ownsRow_lit w #[] 0 (Nat.le_refl _) (by unfold maxLen; omega) rfl, rfl⟩
    go_enter Try.func18, Try.ntmps18
    go_wp2_with (go_at_call 34; refine (l2Path_any f _ (by omega)).mono ?_; rintro e w' ⟨rfl, rfl⟩)
    go_ret
    exact ⟨_, 0, 0, rfl, by rw [HR.out]; exact O0.out, (Below.refl _ _).alloc (Nat.le_refl _) _⟩
  | true =>
    have HR : Hid (candS f sp = candF (baseC f sp)) := by show candS f sp = _; rw [candS, hp]; rfl
    go_enter Try.func18, Try.ntmps18
    go_upto_region 5 with (go_at_call 34; refine (l2Path_any f _ (by omega)).mono ?_; rintro e w' ⟨rfl, rfl⟩)
    refine world_anyU (R := fun W => TwoS w W 9 w.heap.size 0 0 [] (w.heap.size + 1) 0 0 []) (two_start w _) ?_
    intro w1 h1
    have T1 := hidU h1
    clear h1
    go_cut [27] from 18 to 27 (fun s27 wx => s27 = .bool (relB sp) ∧ wx = w1)
    case first =>
      cases e1 : begB { data := #[47] } sp with
      | true =>
        have HB : Hid (relB sp = true) := by show relB sp = true; rw [relB, e1]; rfl
        go_wp2_with (go_at_call 37; refine (begins_spec _ _ _ (by omega) (by decide)).mono ?_; rintro e w' ⟨rfl, rfl⟩)
        go_meet
        case rel => exact ⟨by rw [HB.out], rfl⟩
      | false =>
        cases e2 : begB { data := #[46, 47] } sp with
        | true =>
          have HB : Hid (relB sp = true) := by show relB sp = true; rw [relB, e1, e2]; rfl
          go_wp2_with (go_at_call 37; refine (begins_spec _ _ _ (by omega) (by decide)).mono ?_; rintro e w' ⟨rfl, rfl⟩)
          go_meet
          case rel => exact ⟨by rw [HB.out], rfl⟩
        | false =>
          have HB : Hid (relB sp = begB { data := #[46, 46, 47] } sp) := by show relB sp = _; rw [relB, e1, e2]; rfl
          go_wp2_with (go_at_call 37; refine (begins_spec _ _ _ (by omega) (by decide)).mono ?_; rintro e w' ⟨rfl, rfl⟩)
          go_meet
          case rel => exact ⟨by rw [HB.out], rfl⟩
    case rest =>
      obtain ⟨rfl, hwc⟩ := hcut
      rw [hwc]
      clear hwc
      go_upto_if 27 with fail
      go_cut [6, 7, 8] from 27 to 52 (fun s6 _ _ wx => ∃ gb nb capb, s6 = .slice (some ⟨gb, 0, none⟩) nb capb ∧ TwoS w wx 9 w.heap.size 0 0 [] gb nb capb (baseC f sp))
      case first =>
        cases hr : relB sp with
        | true =>
          have HB : Hid (baseC f sp = [] ++ [resolveS f sp]) := by show baseC f sp = _; rw [baseC, hr]; rfl
          go_wp2_with (first | (go_at_call 38; refine (resolve_spec f sp _ (by omega) hs).mono ?_; rintro e w2 ⟨rfl, hb2⟩; have T2 := hidU (T1.out.later hb2); clear hb2) | (at_builtin; refine app_strG w2 rfl _ _ 25 rfl w.heap.size 9 i0 _ Try.underlying25 hi hz0 hz1 hz2 rfl (w.heap.size + 1) 0 0 [] (by rfl) T2.out.bas (resolveS f sp) (by rfl) (by omega) ?_; intro g' cap' w3 ho hg hat))
          go_meet
          case rel => exact ⟨g', 1, cap', rfl, by rw [HB.out]; exact T2.out.base ho hg hat⟩
        | false =>
          have HB : Hid (baseC f sp = (upL f).map (libC sp)) := by show baseC f sp = _; rw [baseC, hr]; rfl
          go_wp2_with fail
          refine (up_spec f _ (by omega) (clean_2000 f)).mono ?_
          rintro e w2 ⟨gu, nu, capu, rfl, hou, hbu⟩
          have T2 := hidU (T1.out.later hbu)
          have UO := hidU hou
          have hnu := ownS_len hou
          have hnl : nu ≤ 2001 := by rw [hnu]; exact upL_len f (clean_2000 f)
          have HNU := hidU hnu
          have hgu := ownS_blk hou
          have hgb := (ownS_blk T1.out.bas).2
          clear hbu hou hnu
          go_wp2
          go_loopw [6, 8] (fun s6 i wr => ∃ (k gb capb : Nat), k ≤ nu ∧ i = .int .i64 k ∧ s6 = .slice (some ⟨gb, 0, none⟩) k capb ∧ TwoS w wr 9 w.heap.size 0 0 [] gb k capb (((upL f).take k).map (libC sp)) ∧ OwnS wr w1.heap.size 9 gu nu capu (upL f) ∧ gu ≠ gb) (fun _ i _ => (nu - intOf i).toNat)
          case atStart => exact ⟨0, w.heap.size + 1, 0, Nat.zero_le _, rfl, rfl, T2.out, UO.out, by omega⟩
          case round =>
            obtain ⟨k, gb, capb, hk, rfl, rfl, ht, hou, hne⟩ := hrel
            have T3 := hidU ht
            have U3 := hidU hou
            by_cases hlt : k < nu
            · obtain ⟨u, hu⟩ : ∃ u, (upL f)[k]? = some u := ⟨_, List.getElem?_eq_getElem (by rw [← HNU.out]; exact hlt)⟩
              have c0 := ownS_cell hou k hlt
              rw [List.getD, hu] at c0
              simp only [Option.getD_some] at c0
              have hus := upL_size f u (List.mem_of_getElem? hu)
              have hcl := clean_2000 f
              have l5 : tLib.size = 5 := rfl
              have hz4 : (u ++ tLib).size ≤ 3000 := by rw [ByteArray.size_append, l5]; omega
              have hz5 : (u ++ tLib ++ sp).size ≤ 2000000 := by rw [ByteArray.size_append]; omega
              have HM : Hid (((upL f).take (k + 1)).map (libC sp) = ((upL f).take k).map (libC sp) ++ [libC sp u]) := map_take _ hu
              have hgw := (ownS_blk hou).2
              clear ht hou hu
              go_wp2_with (first | (go_at_call 11; refine (clean_spec (u ++ tLib ++ sp) _ (Nat.le_trans hz5 (by omega))).mono ?_; rintro e w4 ⟨rfl, hb4⟩; have T4 := hidU (T3.out.later hb4); have U4 := hidU (ownS_later U3.out hb4); have hsz4 := hb4.size; clear hb4 c0) | (at_builtin; refine app_strG w4 rfl _ _ 25 rfl w.heap.size 9 i0 _ Try.underlying25 hi hz0 hz1 hz2 rfl gb k capb _ (by rfl) T4.out.bas (libC sp u) (by rfl) (by omega) ?_; intro g' cap' w5 ho hg hat))
              go_roundw
              case rel => exact ⟨k + 1, g', cap', hlt, by go_num, rfl, by rw [HM.out]; exact T4.out.base ho hg hat, ownS_keep U4.out (hg.block gu (by omega) (fun e => hne (Option.some.inj e))), by omega⟩
              case measure => simp [intOf]; omega
            · have HE : Hid (((upL f).take k).map (libC sp) = baseC f sp) := by
                show _ = _
                rw [HB.out, List.take_of_length_le (by rw [← HNU.out]; omega)]
              go_wp2
              go_meet
              case rel => exact ⟨gb, k, capb, rfl, by rw [← HE.out]; exact T3.out⟩
      case rest =>
        obtain ⟨gb, nb, capb, rfl, ht⟩ := hcut
        have T2 := hidU ht
        have hnl : nb ≤ 2001 := by rw [ownS_len ht.bas]; exact baseC_len f sp
        have HNB := hidU (ownS_len ht.bas)
        clear ht T1
        go_wp2
        go_loopw [5, 9, 10, 11] (fun o i _ _ wr => ∃ (k g n cap : Nat), k ≤ nb ∧ i = .int .i64 k ∧ o = .slice (some ⟨g, 0, none⟩) n cap ∧ TwoS w wr 9 g n cap (candF ((baseC f sp).take k)) gb nb capb (baseC f sp)) (fun _ i _ _ _ => (nb - intOf i).toNat)
        case atStart => exact ⟨0, w.heap.size, 0, 0, Nat.zero_le _, rfl, rfl, T2.out⟩
        case round =>
          obtain ⟨k, g, n, cap, hk, rfl, rfl, ht⟩ := hrel
          have T3 := hidU ht
          by_cases hlt : k < nb
          · obtain ⟨b, hbk⟩ : ∃ b, (baseC f sp)[k]? = some b := ⟨_, List.getElem?_eq_getElem (by rw [← HNB.out]; exact hlt)⟩
            have c0 := ownS_cell ht.bas k hlt
            rw [List.getD, hbk] at c0
            simp only [Option.getD_some] at c0
            have hbs := baseC_size f sp b (List.mem_of_getElem? hbk)
            have HS := hidU (candF_succ hbk)
            have hgw := (ownS_blk ht.bas).2
            have hn0 : n ≤ 6003 := by
              have h1 := candF_len ((baseC f sp).take k)
              have h2 := ownS_len ht.out
              have h3 : ((baseC f sp).take k).length ≤ nb := by rw [HNB.out]; exact List.length_take_le' ..
              omega
            clear ht hbk
            cases he : b.toList.isEmpty with
            | true =>
              have HE : Hid (candF ((baseC f sp).take (k + 1)) = candF ((baseC f sp).take k)) := HS.out.trans (candB_empty he)
              go_wp2
              go_roundw
              case rel => exact ⟨k + 1, g, n, cap, hlt, by go_num, rfl, by rw [HE.out]; exact T3.out⟩
              case measure => simp [intOf]; omega
            | false =>
              have HE : Hid (candF ((baseC f sp).take (k + 1)) = (trio b).foldl addC (candF ((baseC f sp).take k))) := HS.out.trans (candB_some he)
              have l3 : tJs.size = 3 := rfl
              have l9 : tIndex.size = 9 := rfl
              have z1 : (b ++ tJs).size ≤ 3000 := by rw [ByteArray.size_append, l3]; omega
              have z2 : (b ++ tIndex).size ≤ 3000 := by rw [ByteArray.size_append, l9]; omega
              generalize candF ((baseC f sp).take k) = out0 at T3 HE
              clear HS
              go_upto_region 16 with fail
              go_cut [10] from 64 to 78 (fun s10 wx => s10 = .slice (some ⟨wr.heap.size, 0, none⟩) 3 3 ∧ wx.heap[wr.heap.size]? = some (.cells #[.string b, .string (b ++ tJs), .string (b ++ tIndex)] 9 (0, 0)) ∧ TwoS w wx 9 g n cap out0 gb nb capb (baseC f sp))
              case first =>
                go_region
                all_goals
                  go_wp2
                  go_meet
                  case rel => exact ⟨rfl, heap_alloc_new wr _, T3.out.later ((Below.refl wr.heap.size wr).alloc (Nat.le_refl _) _).drew⟩
              case rest =>
                obtain ⟨rfl, hx, ht⟩ := hcut
                have X4 := hidU hx
                have T4 := hidU ht
                have hgl : g ≠ wr.heap.size := by have := (ownS_blk T3.out.out).2; omega
                clear hx ht c0 T3
                generalize wr.heap.size = gl at X4 hgl hgw ⊢
                go_wp2
                go_loopw [5, 11] (fun o j wq => ∃ (m g n cap : Nat), m ≤ 3 ∧ j = .int .i64 m ∧ o = .slice (some ⟨g, 0, none⟩) n cap ∧ TwoS w wq 9 g n cap (((trio b).take m).foldl addC out0) gb nb capb (baseC f sp) ∧ wq.heap[gl]? = some (.cells #[.string b, .string (b ++ tJs), .string (b ++ tIndex)] 9 (0, 0)) ∧ g ≠ gl ∧ n ≤ 6003 + m) (fun _ j _ => (3 - intOf j).toNat)
                case atStart => exact ⟨0, g, n, cap, by omega, rfl, rfl, T4.out, X4.out, hgl, by omega⟩
                case round =>
                  obtain ⟨m, g1, n1, cap1, hm, rfl, rfl, ht, hx, hg1, hn1⟩ := hrel
                  have T5 := hidU ht
                  have X5 := hidU hx
                  by_cases hlt3 : m < 3
                  · obtain ⟨x, hxm, hxs⟩ := trio_at b hlt3
                    have c1 := trio_cell hx hxm
                    have HF := hidU (fold_take addC out0 hxm)
                    have hgl2 := (Array.getElem?_eq_some_iff.1 hx).1
                    clear ht hx hxm
                    generalize ((trio b).take m).foldl addC out0 = out1 at T5 HF
                    cases hpx : pathB x with
                    | false =>
                      have HE2 : Hid (((trio b).take (m + 1)).foldl addC out0 = out1) := HF.out.trans (addC_path hpx)
                      go_wp2_with (go_at_call 34; refine (l2Path_any x _ (by omega)).mono ?_; rintro e w' ⟨rfl, hw'⟩; rw [hw']; clear hw')
                      go_roundw
                      case rel => exact ⟨m + 1, g1, n1, cap1, hlt3, by go_num, rfl, by rw [HE2.out]; exact T5.out, X5.out, hg1, by omega⟩
                      case measure => simp [intOf]; omega
                    | true =>
                      cases hin : inT out1 x with
                      | true =>
                        have HE2 : Hid (((trio b).take (m + 1)).foldl addC out0 = out1) := HF.out.trans (addC_in hin)
                        go_wp2_with (first | (go_at_call 34; refine (l2Path_any x _ (by omega)).mono ?_; rintro e w' ⟨rfl, hw'⟩; rw [hw']; clear hw') | (go_at_call 39; refine (l6In_own g1 n1 cap1 _ _ x _ T5.out.out (by omega)).mono ?_; rintro e w' ⟨rfl, hw'⟩; rw [hw']; clear hw'))
                        go_roundw
                        case rel => exact ⟨m + 1, g1, n1, cap1, hlt3, by go_num, rfl, by rw [HE2.out]; exact T5.out, X5.out, hg1, by omega⟩
                        case measure => simp [intOf]; omega
                      | false =>
                        have HE2 : Hid (((trio b).take (m + 1)).foldl addC out0 = out1 ++ [x]) := HF.out.trans (addC_yes hpx hin)
                        go_wp2_with (first | (go_at_call 34; refine (l2Path_any x _ (by omega)).mono ?_; rintro e w' ⟨rfl, hw'⟩; rw [hw']; clear hw') | (go_at_call 39; refine (l6In_own g1 n1 cap1 _ _ x _ T5.out.out (by omega)).mono ?_; rintro e w' ⟨rfl, hw'⟩; rw [hw']; clear hw') | (at_builtin; refine app_strG wr rfl _ _ 25 rfl w.heap.size 9 i0 _ Try.underlying25 hi hz0 hz1 hz2 rfl g1 n1 cap1 out1 (by rfl) T5.out.out x (by rfl) (by omega) ?_; intro g' cap' w5 ho hg hat))
                        go_roundw
                        case rel => exact ⟨m + 1, g', n1 + 1, cap', hlt3, by go_num, rfl, by rw [HE2.out]; exact T5.out.grow ho hg hat, (hg.block gl hgl2 (fun e => hg1 (Option.some.inj e).symm)).trans X5.out, by omega, by omega⟩
                        case measure => simp [intOf]; omega
                  · have HE3 : Hid (candF ((baseC f sp).take (k + 1)) = ((trio b).take m).foldl addC out0) := by
                      show _ = _
                      rw [HE.out, List.take_of_length_le (by show 3 ≤ m; omega)]
                    clear ht hx
                    go_wp2
                    go_roundw
                    case rel => exact ⟨k + 1, g1, n1, cap1, hlt, by go_num, rfl, by rw [HE3.out]; exact T5.out⟩
                    case measure => simp [intOf]; omega
          · have HE : Hid (candF ((baseC f sp).take k) = candS f sp) := by
              show _ = _
              rw [HR.out, List.take_of_length_le (by rw [← HNB.out]; omega)]
            go_wp2
            go_ret
            exact ⟨g, n, cap, rfl, by rw [← HE.out]; exact T3.out.out, T3.out.bel⟩
end Go.Proofs.Ytemfbibeoibpeaa
