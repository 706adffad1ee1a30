/-
  What laws.FnPaths answers at a code that is not too long: the walk.
-/
import Derived.Test.YthgoclgkhnnpmaaImplClean
import Derived.Test.YthgoclgkhnnpmaaCleanTwice
import Derived.Test.YthgoclgkhnnpmaaDrawFile
import Derived.Test.YthgoclgkhnnpmaaBig
namespace Go.Proofs.Ythgoclgkhnnpmaa
open Go.RowKit Go.PlainAid

theorem resolve_xy (sp : ByteArray) : resolveS { data := #[47, 120] } sp = resolveS { data := #[47, 121] } sp := by
  have h1 : pathB { data := #[47, 120] } = true := by decide
  have h2 : pathB { data := #[47, 121] } = true := by decide
  have e : (ByteArray.mk #[47, 120]).extract 0 (dirTo { data := #[47, 120] } (ByteArray.mk #[47, 120]).size) = (ByteArray.mk #[47, 121]).extract 0 (dirTo { data := #[47, 121] } (ByteArray.mk #[47, 121]).size) := by
    have d1 : dirTo { data := #[47, 120] } (ByteArray.mk #[47, 120]).size = 1 := by decide
    have d2 : dirTo { data := #[47, 121] } (ByteArray.mk #[47, 121]).size = 1 := by decide
    rw [d1, d2]
    exact bytes_ext (by rw [Lib.extract_data, Lib.extract_data]; rfl)
  rw [resolve_folder _ _ h1, resolve_folder _ _ h2]
  unfold folderS
  rw [e]
theorem beg_slash {s : ByteArray} (h1 : 1 ≤ s.size) (h : bt s 0 = 47) : begB { data := #[47] } s = true := by
  have e1 : (ByteArray.mk #[47]).size = 1 := rfl
  have e2 : bt { data := #[47] } 0 = 47 := by decide
  unfold begB
  rw [e1, decide_eq_true h1, Bool.true_and, toList_eq_iff]
  have e3 : (s.extract 0 1) = strOfNums (bsl s 0 1) := extract_bsl s 1 h1
  have e4 : ({ data := #[47] } : ByteArray) = strOfNums (bsl { data := #[47] } 0 1) := all_bsl _
  rw [e3, e4]
  simp [bsl, h, e2]
theorem resolve_abs {f s : ByteArray} (hp : pathB f = true) (h : begB { data := #[47] } s = true) : resolveS f s = cleanS s := by
  rw [resolveS, if_neg (by rw [hp]; simp), if_pos h]
theorem resolve_twice (f s : ByteArray) : cleanS (resolveS f s) = resolveS f s := by
  by_cases hp : pathB f = true
  · rw [resolve_folder f s hp, cleanS_twice]
  · have hp' : pathB f = false := by simpa using hp
    rw [resolveS, if_pos hp', cleanS_empty]
theorem some_size {s : ByteArray} (h : s.toList.isEmpty = false) : 1 ≤ s.size := by
  rw [Lib.toList_data] at h
  have e : s.data.toList.length = s.size := by rw [Array.length_toList]; rfl
  rcases Nat.eq_zero_or_pos s.size with k | k
  · rw [k] at e
    rw [List.length_eq_zero_iff.1 e] at h
    cases h
  · exact k
theorem clean_size (s : ByteArray) : (cleanS s).size ≤ 2000 := by
  by_cases hp : pathB s = true
  · have := congrArg ByteArray.size (join_clean hp)
    rw [ByteArray.size_append] at this
    have e2 : (⟨(Lib.join ((parts s).map (·.data.toList)) [47]).toArray⟩ : ByteArray).size = (Lib.join ((parts s).map (·.data.toList)) [47]).length := rfl
    rw [e2] at this
    have e3 := parts_join_len s hp
    have e1 : (ByteArray.mk #[47]).size = 1 := rfl
    by_cases h0 : (parts s).length = 0
    · rw [cleanS_root hp h0, e1]; omega
    · rw [cleanS_yes hp h0]
      have h1 := joinTo_size s (parts s) (clTo_sizes s _) (parts s).length
      have hsz : s.size ≤ 40 := (pathB_iff.1 hp).2.1
      have h2 : (parts s).length * (s.size + 1) ≤ 41 * 41 := Nat.mul_le_mul (by have := parts_len s; omega) (by omega)
      omega
  · have hp' : pathB s = false := by simpa using hp
    rw [cleanS_no hp']
    exact Nat.zero_le _
theorem resolve_size (f s : ByteArray) : (resolveS f s).size ≤ 2000 := by
  rw [← resolve_twice]
  exact clean_size _

set_option maxHeartbeats 1600000 in
theorem paths_any (S : Src) (hS : S.ok) (w : World) (hc : CodeW S w) (hl : S.lim ≤ w.heap.size) :
    Calls Try.prog 3 #[.slice S.a S.len S.cap] w fun e w' => e = .returned (.bool true) ∧ Below w.heap.size w w' := by
  have hlen : S.len ≤ 1048576 := hS.1
  have hbig : decide ((1048576 : Int) < S.len) = false := by simp; omega
  go_enter Try.func3, Try.ntmps3
  go_wp2_with fail
  refine (big_any _ _ _ _ (by omega)).mono ?_
  rintro e w' ⟨rfl, rfl⟩
  go_wp2_with fail
  refine (drawResolve_some S hS _ hc hl).mono ?_
  rintro e w1 ⟨f, s, rfl, hf, hs, hb1⟩
  go_wp2_with fail
  refine (clean_impl _ _ (by omega)).mono ?_
  rintro e w2 ⟨rfl, hb2⟩
  go_wp2_with fail
  refine (resolve_impl _ _ _ (by omega) (by omega)).mono ?_
  rintro e w3 ⟨rfl, hb3⟩
  go_wp2_with fail
  refine (resolve_spec _ _ _ (by omega) (by omega)).mono ?_
  rintro e w4 ⟨rfl, hb4⟩
  have B2 := hb1.trans (hb2.mono hb1.size)
  have B3 := B2.trans (hb3.mono B2.size)
  have B4 := B3.trans (hb4.mono B3.size)
  clear hb1 hb2 hb3 hb4 B2 B3
  have H2 : Hid (cleanS (cleanS f) = cleanS f) := cleanS_twice f
  have H3 : Hid (cleanS (resolveS f s) = resolveS f s) := resolve_twice f s
  have hcs := clean_size f
  have hrs := resolve_size f s
  by_cases hp : pathB f = true
  · have hc0 : (cleanS f).toList.isEmpty = false := by rw [cleanS_some, hp]; rfl
    have HXY : Hid (resolveS { data := #[47, 121] } s = resolveS { data := #[47, 120] } s) := (resolve_xy s).symm
    have hgb := get_bt s
    by_cases hr0 : (resolveS f s).toList.isEmpty = true
    · skip
      go_wp2_with fail
      refine (clean_impl _ _ (by omega)).mono ?_
      rintro e w5 ⟨rfl, hb5⟩
      rw [H2.out]
      have B5 := B4.trans (hb5.mono B4.size)
      go_wp2_with fail
      refine (resolve_impl _ _ _ (by decide) (by omega)).mono ?_
      rintro e w6 ⟨rfl, hb6⟩
      have B6 := B5.trans (hb6.mono B5.size)
      go_wp2_with fail
      refine (resolve_impl _ _ _ (by decide) (by omega)).mono ?_
      rintro e w7 ⟨rfl, hb7⟩
      rw [HXY.out]
      have B7 := B6.trans (hb7.mono B6.size)
      clear HXY
      by_cases s0 : s.toList.isEmpty = true
      · go_wp2
        go_ret
        exact ⟨rfl, B7⟩
      · have s0' : s.toList.isEmpty = false := by simpa using s0
        have s1 := some_size s0'
        clear s0
        by_cases s47 : bt s 0 = 47
        · have HA : Hid (cleanS s = resolveS f s) := (resolve_abs hp (beg_slash s1 s47)).symm
          have q47 : (bt s 0 != 47) = false := by simp [s47]
          clear s47
          go_wp2_with fail
          refine (clean_impl _ _ (by omega)).mono ?_
          rintro e w8 ⟨rfl, hb8⟩
          rw [HA.out]
          have B8 := B7.trans (hb8.mono B7.size)
          go_wp2
          go_ret
          exact ⟨rfl, B8⟩
        · have q47 : (bt s 0 != 47) = true := by simpa using s47
          clear s47
          go_wp2
          go_ret
          exact ⟨rfl, B7⟩
    · have hr0' : (resolveS f s).toList.isEmpty = false := by simpa using hr0
      clear hr0
      go_wp2_with fail
      refine (clean_impl _ _ (by omega)).mono ?_
      rintro e w5 ⟨rfl, hb5⟩
      rw [H2.out]
      have B5 := B4.trans (hb5.mono B4.size)
      go_wp2_with fail
      refine (clean_impl _ _ (by omega)).mono ?_
      rintro e w6 ⟨rfl, hb6⟩
      rw [H3.out]
      have B6 := B5.trans (hb6.mono B5.size)
      go_wp2_with fail
      refine (resolve_impl _ _ _ (by decide) (by omega)).mono ?_
      rintro e w7 ⟨rfl, hb7⟩
      have B7 := B6.trans (hb7.mono B6.size)
      go_wp2_with fail
      refine (resolve_impl _ _ _ (by decide) (by omega)).mono ?_
      rintro e w8 ⟨rfl, hb8⟩
      rw [HXY.out]
      have B8 := B7.trans (hb8.mono B7.size)
      clear HXY
      by_cases s0 : s.toList.isEmpty = true
      · go_wp2
        go_ret
        exact ⟨rfl, B8⟩
      · have s0' : s.toList.isEmpty = false := by simpa using s0
        have s1 := some_size s0'
        clear s0
        by_cases s47 : bt s 0 = 47
        · have HA : Hid (cleanS s = resolveS f s) := (resolve_abs hp (beg_slash s1 s47)).symm
          have q47 : (bt s 0 != 47) = false := by simp [s47]
          clear s47
          go_wp2_with fail
          refine (clean_impl _ _ (by omega)).mono ?_
          rintro e w9 ⟨rfl, hb9⟩
          rw [HA.out]
          have B9 := B8.trans (hb9.mono B8.size)
          go_wp2
          go_ret
          exact ⟨rfl, B9⟩
        · have q47 : (bt s 0 != 47) = true := by simpa using s47
          clear s47
          go_wp2
          go_ret
          exact ⟨rfl, B8⟩
  · have hp' : pathB f = false := by simpa using hp
    have hc0 : (cleanS f).toList.isEmpty = true := by rw [cleanS_some, hp']; rfl
    have hr0 : (resolveS f s).toList.isEmpty = true := by rw [resolveS, if_pos hp', Lib.toList_data]; rfl
    go_wp2
    go_ret
    exact ⟨rfl, B4⟩
end Go.Proofs.Ythgoclgkhnnpmaa
