/-
  What impl.withoutLast, impl.partEnd and impl.keptParts answer, and impl.Clean: the walks.
  What impl.Clean, impl.folderFor and impl.Resolve answer: the walks.
-/
import Derived.Lib.MinMax
import Derived.Laws.CopyOwn
import Derived.Laws.OwnMore
import Derived.WalkMore
import Derived.Test.YtdbpknmoacjodaaCfPartMath
import Derived.Test.YtdbpknmoacjodaaCfDrawLineToSpecClean
import Derived.Test.YtdbpknmoacjodaaCfShelf
import Derived.Test.YtdbpknmoacjodaaCfScopeBack
namespace Go.Proofs.Ytdbpknmoacjodaa
open Go.RowKit Go.PlainAid

theorem addr_at (g j : Nat) : Addr.add ⟨g, 0, none⟩ j = ⟨g, j, none⟩ := by
  unfold Addr.add
  split <;> simp_all
theorem ownS_of {w : World} {base g m cap : Nat} {e : TypeId} {cur : List Value} {ys : List ByteArray} (hb : base ≤ g) (hg : w.heap[g]? = some (.cells cur.toArray e (0, 0))) (hcap : cur.length = cap) (hm : m ≤ cap)
    (hmax : cap ≤ 1000000) (h : cur.take m = ys.map Value.string) (ym : m = ys.length) : OwnS w base e g m cap ys :=
  ⟨⟨by rw [List.length_map]; omega, .inr ⟨g, cap, cur.toArray, rfl, hb, hg, hm, by unfold maxLen; omega, by simp [hcap], by simpa using h⟩⟩, ym⟩
theorem ownS_base {w : World} {base base' g n cap : Nat} {e : TypeId} {xs : List ByteArray} (h : OwnS w base e g n cap xs) (hb : base' ≤ base) : OwnS w base' e g n cap xs := by
  refine ⟨⟨h.1.1, ?_⟩, h.2⟩
  rcases h.1.2 with k | ⟨g', cap', cur, hv, hbase, hr⟩
  · exact .inl k
  · exact .inr ⟨g', cap', cur, hv, by omega, hr⟩

set_option maxRecDepth 100000 in
set_option maxHeartbeats 1600000 in
theorem withoutLast_any (B g n cap : Nat) (xs : List ByteArray) (w : World) (hown : OwnS w B 9 g n cap xs) (hB : B ≤ w.heap.size) (hn : n ≤ 1000) :
    Calls Try.prog 219 #[.slice (some ⟨g, 0, none⟩) n cap] w fun e w' => ∃ g' cap', e = .returned (.slice (some ⟨g', 0, none⟩) (n - 1 : Nat) cap') ∧ OwnS w' B 9 g' (n - 1) cap' xs.dropLast ∧ Below w.heap.size w w' := by
  obtain ⟨i0, hi, hz0, hz1, hz2⟩ := info_parts Try.infoStr
  have hlen := ownS_len hown
  obtain ⟨m, hm⟩ : ∃ m, m = n - 1 := ⟨_, rfl⟩
  have hmx : max ((n : Int) - 1) 0 = (m : Int) := by rw [Int.max_def]; split <;> omega
  have HM : Hid (m = n - 1) := hm
  have hmn : m ≤ n := by omega
  obtain ⟨cs, hcs⟩ : ∃ cs : List Value, cs = xs.dropLast.map Value.string := ⟨_, rfl⟩
  have HCS : Hid (cs = xs.dropLast.map Value.string) := hcs
  have hcl : cs.length = m := by rw [hcs, List.length_map, List.length_dropLast]; omega
  have HCL : Hid (cs.length = m) := hcl
  have hcell : ∀ j v, cs[j]? = some v → w.cell? ⟨g, j, none⟩ = some v := by
    intro j v hj
    have hjl : j < cs.length := by
      rcases Nat.lt_or_ge j cs.length with k | k
      · exact k
      · rw [List.getElem?_eq_none k] at hj; cases hj
    rw [ownS_cell hown j (by omega)]
    rw [hcs, List.getElem?_map] at hj
    have e : xs.dropLast[j]? = xs[j]? := by rw [List.getElem?_dropLast, if_pos (by omega)]
    rw [e, List.getElem?_eq_getElem (show j < xs.length by omega)] at hj
    simp only [Option.map_some, Option.some.injEq] at hj
    rw [← hj]
    simp [List.getD, List.getElem?_eq_getElem (show j < xs.length by omega)]
  have HCELL : Hid (∀ j v, cs[j]? = some v → w.cell? ⟨g, j, none⟩ = some v) := hcell
  have hglt : g < w.heap.size := by
    rcases hown.1.2 with ⟨h', _⟩ | ⟨g', cap', cur, h', _, hg, _⟩
    · simp at h'
    · simp only [Value.slice.injEq, Option.some.injEq, Addr.mk.injEq, and_true, true_and] at h'
      obtain ⟨rfl, rfl⟩ := h'
      exact (Array.getElem?_eq_some_iff.1 hg).1
  have hszi : (Try.prog.info? 9).map (·.size) = some 1 := by rw [hi]; simp [hz1]
  have HSZ : Hid ((Try.prog.info? 9).map (·.size) = some 1) := hszi
  have HLEN : Hid (n = xs.length) := hlen
  clear hcell hcs hm hszi hcl hlen
  go_enter Try.func219, Try.ntmps219
  go_wp2_with (first | (at_make; refine wpList_make_full w rfl _ _ 22 rfl w.heap.size 9 i0 _ 1 Try.underlying22 hi hz0 hz1 .i64 .i64 _ _ m (by rfl) (by rfl) rfl rfl (by rw [hz2]; omega) (by unfold maxLen; omega) (Nat.le_refl _) ?_))
  intro w1 hown1 hgr1
  obtain ⟨cur, hcur, hcurl⟩ : ∃ cur : List Value, w1.heap[w.heap.size]? = some (.cells cur.toArray 9 (0, 0)) ∧ cur.length = m := by
    rcases hown1.2 with ⟨h', _⟩ | ⟨g', cap', cur, h', _, hg, _, _, hsz, _⟩
    · simp at h'
    · simp only [Value.slice.injEq, Option.some.injEq, Addr.mk.injEq, and_true, true_and] at h'
      obtain ⟨rfl, rfl⟩ := h'
      exact ⟨cur.toList, by simpa using hg, by simpa using hsz⟩
  have hb1 : Below w.heap.size w w1 := (Below.refl _ _).grown hgr1 (Nat.le_refl _) (fun k h => by cases h)
  have HCUR : Hid (w1.heap[w.heap.size]? = some (.cells cur.toArray 9 (0, 0))) := hcur
  have HCURL : Hid (cur.length = m) := hcurl
  have HSRC : Hid (∀ j v, cs[j]? = some v → w1.cell? (Addr.add ⟨g, 0, none⟩ j) = some v) := fun j v hj => by
    rw [addr_at, hb1.cell hglt]
    exact HCELL.out j v hj
  clear hown1 hgr1 hcur hcurl
  go_wp2_with (first | (refine wpList_copy_splice rfl _ _ 22 22 rfl 9 Try.underlying22 HSZ.out _ _ _ _ _ _ (by rfl) (by rfl) w.heap.size 0 cur 9 HCUR.out cs (by rw [HCL.out]; exact (Nat.min_eq_right hmn).symm) (fun _ => ⟨rfl, _, rfl, HSRC.out⟩) (by rw [HCL.out, HCURL.out]; omega) (fun v hv => by rw [HCS.out] at hv; obtain ⟨x, _, rfl⟩ := List.mem_map.1 hv; rfl) w.heap.size w hb1 (Nat.le_refl _) ?_))
  intro w2 HG2 hb2
  have hfin : OwnS w2 B 9 w.heap.size m m xs.dropLast := by
    refine ownS_of hB HG2.out ?_ (Nat.le_refl _) (by omega) ?_ ?_
    · rw [length_splice _ _ _ (by rw [HCL.out, HCURL.out]; omega), HCURL.out]
    · rw [splice, HCS.out]
      have := HCL.out
      rw [HCS.out] at this
      simp [← this]
    · have := HCL.out
      rw [HCS.out, List.length_map] at this
      exact this.symm
  go_wp2
  go_ret
  exact ⟨w.heap.size, m, by rw [← HM.out]; rfl, by rw [← HM.out]; exact hfin, hb2⟩

theorem partEnd_any (s : ByteArray) (a : Nat) (w : World) (ha : a ≤ s.size) (hs : s.size ≤ 40) :
    Calls Try.prog 218 #[.string s, .int .i64 a] w fun e w' => e = .returned (.int .i64 (pend s a)) ∧ w' = w := by
  have hpe := pend_ok s a ha
  have hb1 : pend s a ≤ 40 := by have := hpe.2.1; omega
  have hge := Lib.indexByte_ge (s.extract a s.size).data.toList 47
  clear hpe
  obtain ⟨o, ho⟩ : ∃ o, Lib.indexByte (s.extract a s.size).data.toList 47 = o := ⟨_, rfl⟩
  have HO : Hid (Lib.indexByte (s.extract a s.size).data.toList 47 = o) := ho
  have ho' : Lib.indexByte (s.extract a s.size).data.toList (47 : Int).toNat.toUInt8 = o := ho
  rw [ho] at hge
  clear ho
  by_cases h0 : 0 ≤ o
  · have HP : Hid ((a : Int) + o = (pend s a : Int)) := pend_yes h0 HO.out
    have hbd : (a : Int) + o ≤ 40 := by have := HP.out; omega
    go_enter Try.func218, Try.ntmps218
    go_wp2_with fail
    refine (Try.strings_IndexByte _ _ _).mono ?_
    rintro e w' ⟨rfl, rfl⟩
    rw [ho']
    go_wp2
    go_ret
    exact ⟨ret_int HP.out, rfl⟩
  · have HP : Hid (pend s a = s.size) := pend_no (by rw [HO.out]; exact h0)
    go_enter Try.func218, Try.ntmps218
    go_wp2_with fail
    refine (Try.strings_IndexByte _ _ _).mono ?_
    rintro e w' ⟨rfl, rfl⟩
    rw [ho']
    go_wp2
    go_ret
    exact ⟨ret_int (by rw [HP.out]), rfl⟩

set_option maxRecDepth 1000000 in
set_option maxHeartbeats 3200000 in
theorem keptParts_any (s : ByteArray) (w : World) (hp : pathB s = true) :
    Calls Try.prog 215 #[.string s] w fun e w' => ∃ g n cap, e = .returned (.slice (some ⟨g, 0, none⟩) n cap) ∧ OwnS w' w.heap.size 9 g n cap (parts s) ∧ Below w.heap.size w w' := by
  obtain ⟨i0, hi, hz0, hz1, hz2⟩ := info_parts Try.infoStr
  have hl1 : 1 ≤ s.size := (pathB_iff.1 hp).1
  have hl2 : s.size ≤ 40 := (pathB_iff.1 hp).2.1
  have E0 : Hid (bt s 0 = 47) := (pathB_iff.1 hp).2.2.1
  have H1 : Hid (clTo s 1 = (1, [])) := clTo_first E0.out
  go_enter Try.func215, Try.ntmps215
  go_wp2
  refine wp_scope_back 0 (fun a' w' => ∃ (at_ n g cap : Nat) (xs : List ByteArray) (u5 u6 u7 u8 u9 u10 u11 u12 u13 u14 u15 u16 u17 u18 u19 u20 u21 u22 u23 u24 u25 u26 u27 u28 u29 u30 u31 u32 u33 : Value), a' = { tmps := #[.string s, undef, .slice none 0 0, .slice (some ⟨g, 0, none⟩) n cap, .int .i64 at_, u5, u6, u7, u8, u9, u10, u11, u12, u13, u14, u15, u16, u17, u18, u19, u20, u21, u22, u23, u24, u25, u26, u27, u28, u29, u30, u31, u32, u33], defers := [] } ∧ at_ ≤ s.size ∧ clTo s at_ = (at_, xs) ∧ OwnS w' w.heap.size 9 g n cap xs ∧ Below w.heap.size w w') (fun a' _ => (41 - intOf (a'.tmps.getD 4 undef)).toNat) rfl ?_ ?_
  · rintro a' wr ⟨at_, n, g, cap, xs, u5, u6, u7, u8, u9, u10, u11, u12, u13, u14, u15, u16, u17, u18, u19, u20, u21, u22, u23, u24, u25, u26, u27, u28, u29, u30, u31, u32, u33, rfl, hat, hto, hown, hbel⟩
    have hsz := hbel.size
    have hbd := clTo_bd s at_
    rw [hto] at hbd
    simp only at hbd
    have hn42 : n ≤ 42 := by have := ownS_len hown; omega
    have hcp := ownS_cap hown
    clear hbd
    obtain ⟨e, he⟩ : ∃ e, pend s at_ = e := ⟨_, rfl⟩
    have hpe : PEnd s at_ e := by rw [← he]; exact pend_ok s at_ hat
    have he1 : at_ ≤ e := hpe.1
    have he2 : e ≤ s.size := hpe.2.1
    have HT : Hid (clTo s (e + 1) = (e + 1, upd (s.extract at_ e) xs)) := clTo_end hto hpe
    have HE : Hid (pend s at_ = e) := he
    clear hpe he hto
    by_cases p0 : (s.extract at_ e).toList.isEmpty = true
    · have HU : Hid (clTo s (e + 1) = (e + 1, xs)) := by have := HT.out; rw [upd_empty p0] at this; exact this
      by_cases hend : e < s.size
      · skip
        go_wp2_with fail
        refine (partEnd_any _ _ _ hat hl2).mono ?_
        rintro ev w1 ⟨rfl, rfl⟩
        rw [HE.out]
        go_wp2
        go_step3
        refine ⟨rfl, ⟨e + 1, n, g, cap, xs, _, _, _, _, _, _, _, _, _, _, _, _, _, _, _, _, _, _, _, _, _, _, _, _, _, _, _, _, _, by go_num, by omega, HU.out, hown, hbel⟩, by simp [intOf]; omega⟩
      · have HF : Hid (parts s = xs) := by show (clTo s (s.size + 1)).2 = _; rw [show s.size = e from by omega, HU.out]
        go_wp2_with fail
        refine (partEnd_any _ _ _ hat hl2).mono ?_
        rintro ev w1 ⟨rfl, rfl⟩
        rw [HE.out]
        go_wp2
        simp only [Exit.jump]
        go_ret
        exact ⟨g, n, cap, rfl, by rw [HF.out]; exact hown, hbel⟩
    · have p0' : (s.extract at_ e).toList.isEmpty = false := by simpa using p0
      clear p0
      by_cases p1 : ((s.extract at_ e).toList == [46]) = true
      · have HU : Hid (clTo s (e + 1) = (e + 1, xs)) := by have := HT.out; rw [upd_point p1] at this; exact this
        by_cases hend : e < s.size
        · skip
          go_wp2_with fail
          refine (partEnd_any _ _ _ hat hl2).mono ?_
          rintro ev w1 ⟨rfl, rfl⟩
          rw [HE.out]
          go_wp2
          go_step3
          refine ⟨rfl, ⟨e + 1, n, g, cap, xs, _, _, _, _, _, _, _, _, _, _, _, _, _, _, _, _, _, _, _, _, _, _, _, _, _, _, _, _, _, by go_num, by omega, HU.out, hown, hbel⟩, by simp [intOf]; omega⟩
        · have HF : Hid (parts s = xs) := by show (clTo s (s.size + 1)).2 = _; rw [show s.size = e from by omega, HU.out]
          go_wp2_with fail
          refine (partEnd_any _ _ _ hat hl2).mono ?_
          rintro ev w1 ⟨rfl, rfl⟩
          rw [HE.out]
          go_wp2
          simp only [Exit.jump]
          go_ret
          exact ⟨g, n, cap, rfl, by rw [HF.out]; exact hown, hbel⟩
      · have p1' : ((s.extract at_ e).toList == [46]) = false := by simpa using p1
        clear p1
        by_cases p2 : ((s.extract at_ e).toList == [46, 46]) = true
        · have HU : Hid (clTo s (e + 1) = (e + 1, xs.dropLast)) := by have := HT.out; rw [upd_up p0' p1' p2] at this; exact this
          by_cases hend : e < s.size
          · skip
            go_wp2_with fail
            refine (partEnd_any _ _ _ hat hl2).mono ?_
            rintro ev w1 ⟨rfl, rfl⟩
            rw [HE.out]
            go_wp2_with fail
            refine (withoutLast_any w.heap.size g n cap xs _ hown hsz (by omega)).mono ?_
            rintro ev w2 ⟨g2, cap2, rfl, hown2, hb2⟩
            go_wp2
            go_step3
            refine ⟨rfl, ⟨e + 1, (n - 1), g2, cap2, xs.dropLast, _, _, _, _, _, _, _, _, _, _, _, _, _, _, _, _, _, _, _, _, _, _, _, _, _, _, _, _, _, by go_num, by omega, HU.out, hown2, (hbel.trans (hb2.mono hsz))⟩, by simp [intOf]; omega⟩
          · have HF : Hid (parts s = xs.dropLast) := by show (clTo s (s.size + 1)).2 = _; rw [show s.size = e from by omega, HU.out]
            go_wp2_with fail
            refine (partEnd_any _ _ _ hat hl2).mono ?_
            rintro ev w1 ⟨rfl, rfl⟩
            rw [HE.out]
            go_wp2_with fail
            refine (withoutLast_any w.heap.size g n cap xs _ hown hsz (by omega)).mono ?_
            rintro ev w2 ⟨g2, cap2, rfl, hown2, hb2⟩
            go_wp2
            simp only [Exit.jump]
            go_ret
            exact ⟨g2, (n - 1), cap2, rfl, by rw [HF.out]; exact hown2, (hbel.trans (hb2.mono hsz))⟩
        · have p2' : ((s.extract at_ e).toList == [46, 46]) = false := by simpa using p2
          clear p2
          have HU : Hid (clTo s (e + 1) = (e + 1, xs ++ [s.extract at_ e])) := by have := HT.out; rw [upd_name p0' p1' p2'] at this; exact this
          by_cases hend : e < s.size
          · skip
            go_wp2_with fail
            refine (partEnd_any _ _ _ hat hl2).mono ?_
            rintro ev w1 ⟨rfl, rfl⟩
            rw [HE.out]
            go_wp2_with (first | (at_builtin; refine app_str w1 rfl _ _ 22 rfl w.heap.size 9 i0 _ Try.underlying22 hi hz0 hz1 hz2 rfl g n cap xs (by rfl) hown (s.extract at_ e) (by rfl) (by omega) hsz ?_))
            intro g2 cap2 w2 hown2 hb2
            go_wp2
            go_step3
            refine ⟨rfl, ⟨e + 1, (n + 1), g2, cap2, (xs ++ [s.extract at_ e]), _, _, _, _, _, _, _, _, _, _, _, _, _, _, _, _, _, _, _, _, _, _, _, _, _, _, _, _, _, by go_num, by omega, HU.out, hown2, (hbel.trans hb2)⟩, by simp [intOf]; omega⟩
          · have HF : Hid (parts s = (xs ++ [s.extract at_ e])) := by show (clTo s (s.size + 1)).2 = _; rw [show s.size = e from by omega, HU.out]
            go_wp2_with fail
            refine (partEnd_any _ _ _ hat hl2).mono ?_
            rintro ev w1 ⟨rfl, rfl⟩
            rw [HE.out]
            go_wp2_with (first | (at_builtin; refine app_str w1 rfl _ _ 22 rfl w.heap.size 9 i0 _ Try.underlying22 hi hz0 hz1 hz2 rfl g n cap xs (by rfl) hown (s.extract at_ e) (by rfl) (by omega) hsz ?_))
            intro g2 cap2 w2 hown2 hb2
            go_wp2
            simp only [Exit.jump]
            go_ret
            exact ⟨g2, (n + 1), cap2, rfl, by rw [HF.out]; exact hown2, (hbel.trans hb2)⟩
  · intro hrest
    go_wp2
    go_step3
    rename_i K hK
    refine hK _ _ (hrest _ _ ⟨1, 0, w.heap.size, 0, [], _, _, _, _, _, _, _, _, _, _, _, _, _, _, _, _, _, _, _, _, _, _, _, _, _, _, _, _, _, rfl, hl1, H1.out, ⟨World.ownsRow_lit w #[] 0 (Nat.le_refl _) (by unfold maxLen; omega) rfl, rfl⟩, (Below.refl _ _).alloc (Nat.le_refl _) _⟩)
end Go.Proofs.Ytdbpknmoacjodaa
namespace Go.Proofs.Ytdbpknmoacjodaa
open Go.RowKit Go.PlainAid

theorem clean_impl (s : ByteArray) (w : World) (hs : s.size ≤ 9223372036854775807) :
    Calls Try.prog 208 #[.string s] w fun e w' => e = .returned (.string (cleanS s)) ∧ Below w.heap.size w w' := by
  by_cases hp : pathB s = true
  · have HP : Hid (pathB s = true) := hp
    have hl2 : s.size ≤ 40 := (pathB_iff.1 hp).2.1
    obtain ⟨J, hJ⟩ : ∃ J, Lib.join ((parts s).map (·.data.toList)) [47] = J := ⟨_, rfl⟩
    have HV : Hid (({ data := #[47] } : ByteArray) ++ ⟨J.toArray⟩ = cleanS s) := by have := join_clean hp; rw [hJ] at this; exact this
    have hjl : J.length ≤ 2000 := by rw [← hJ]; exact parts_join_len s hp
    have HJ : Hid (Lib.join ((parts s).map (·.data.toList)) [47] = J) := hJ
    have hpl : (parts s).length ≤ 41 := by have := parts_len s; omega
    have hjs : ({ data := J.toArray } : ByteArray).size ≤ 2000 := hjl
    clear hJ
    go_enter Try.func208, Try.ntmps208
    go_wp2_with fail
    refine (isPath_any _ _ hs).mono ?_
    rintro e w' ⟨rfl, rfl⟩
    go_wp2_with fail
    refine (keptParts_any _ _ HP.out).mono ?_
    rintro e w1 ⟨g, n, cap, rfl, hown, hb1⟩
    have HN : Hid (n = (parts s).length) := ownS_len hown
    go_wp2_with fail
    refine (Calls.mono (R := fun e w2 => e = .returned (.string { data := J.toArray }) ∧ Below w1.heap.size w1 w2) ?_ ?_)
    · have hj := Try.strings_Join g 0 cap (parts s) { data := #[47] } w1
        (fun j x hx => by
          have hjl : j < (parts s).length := by
            rcases Nat.lt_or_ge j (parts s).length with k | k
            · exact k
            · rw [List.getElem?_eq_none k] at hx; cases hx
          rw [Nat.zero_add, ownS_cell hown j (by rw [HN.out]; exact hjl)]
          simp [List.getD, hx])
        (by
          rcases hown.1.2 with ⟨h', _⟩ | ⟨g', cap', cur, h', _, hg, _⟩
          · simp at h'
          · simp only [Value.slice.injEq, Option.some.injEq, Addr.mk.injEq, and_true, true_and] at h'
            obtain ⟨rfl, rfl⟩ := h'
            exact (Array.getElem?_eq_some_iff.1 hg).1)
        (by omega) (by rw [← HN.out]; exact (ownS_cap hown).1)
        (by show (Lib.join ((parts s).map (·.data.toList)) [47]).length ≤ _; rw [HJ.out]; omega)
      rw [← HN.out] at hj
      refine hj.mono ?_
      rintro e w2 ⟨rfl, hb⟩
      exact ⟨ret_str (by show ByteArray.mk (Lib.join ((parts s).map (·.data.toList)) [47]).toArray = _; rw [HJ.out]), hb⟩
    · rintro e w2 ⟨rfl, hb2⟩
      go_wp2
      go_ret
      exact ⟨ret_str HV.out, hb1.trans (hb2.mono hb1.size)⟩
  · have hp' : pathB s = false := by simpa using hp
    have HV : Hid (cleanS s = { data := #[] }) := cleanS_no hp'
    clear hp
    go_enter Try.func208, Try.ntmps208
    go_wp2_with fail
    refine (isPath_any _ _ hs).mono ?_
    rintro e w' ⟨rfl, rfl⟩
    go_wp2
    go_ret
    exact ⟨ret_str HV.out.symm, Below.refl _ _⟩
end Go.Proofs.Ytdbpknmoacjodaa
