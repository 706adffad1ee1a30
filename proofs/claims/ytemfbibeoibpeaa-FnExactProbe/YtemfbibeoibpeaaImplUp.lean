/-
  What impl's folderAbove, foldersAbove and Up answer: the walks.
-/
import Derived.Test.YtemfbibeoibpeaaImplCollect
import Derived.Test.YtemfbibeoibpeaaImplResolve
import Derived.Test.YtemfbibeoibpeaaUpSeq
import Derived.Test.YtemfbibeoibpeaaCandMath
namespace Go.Proofs.Ytemfbibeoibpeaa
open Go.RowKit Go.PlainAid Go.Shelf

theorem OutS.low {w : World} {base b n cap : Nat} {a : Option Addr} {xs : List ByteArray} (h : OutS w base a n cap xs) (hb : b ≤ base) : OutS w b a n cap xs :=
  ⟨h.1, fun k => by obtain ⟨g, e, h1⟩ := h.2 k; exact ⟨g, e, ownS_low h1 hb⟩⟩
set_option maxHeartbeats 1600000 in
theorem folderAbove_any (c : ByteArray) (w : World) (h1 : 1 < c.size) (h2 : c.size ≤ 2000) (h0 : bt c 0 = 47) :
    Calls Try.prog 49 #[.string c] w fun e w' => e = .returned (.string (faC c)) ∧ w' = w := by
  obtain ⟨d, hd⟩ : ∃ d, dirTo c c.size = d := ⟨_, rfl⟩
  have hbd := dirTo_bd c h0 c.size (by omega)
  rw [hd] at hbd
  have hla : Lib.lastIndexByte c 47 = (d : Int) - 1 := by
    have := last_dir c c.size (Nat.le_refl _)
    rw [hd] at this
    unfold Lib.lastIndexByte
    omega
  have HF : Hid (faC c = c.extract 0 (max (d - 1) 1)) := by show faC c = _; rw [faC, hd]
  clear hd
  go_enter Try.func49, Try.ntmps49
  go_wp2_with fail
  refine (Try.strings_LastIndexByte _ _ (by omega) _).mono ?_
  rintro e w1 ⟨rfl, rfl⟩
  rw [hla]
  go_wp2
  go_ret
  have hm : (max ((d : Int) - 1) 1).toNat = max (d - 1) 1 := by omega
  exact ⟨ret_str (by rw [HF.out, hm]), rfl⟩
attribute [local go_sem] Oper.semAt_some
def lenOf : Value → Nat | .string s => s.size | _ => 0
set_option maxRecDepth 100000 in
set_option maxHeartbeats 2000000 in
theorem folders_seq (p : ByteArray) (b : Nat) (hp : p.size ≤ 1048576) : SeqC Try.prog 47 #[.pointer (some ⟨b, 0, none⟩)] (upL p) (fun W => Boxed W b 9 (.string p)) (fun k => k = b) := fun n l J Jx C W hH hBC hJ hJx hC h0 hY => by
  refine callsIn_of_wp Try.func47 rfl trivial ?_ rfl
  simp only [Try.ntmps47, List.size_toArray, List.length_cons, List.length_nil, Nat.reduceAdd, Nat.reduceSub, Array.replicate_succ, Array.replicate_zero, List.push_toArray, List.append_toArray, List.nil_append, List.cons_append]
  have hc := hH.cell
  gi_wp2
  refine wide_call (clean_impl p _ (by omega)) ?_
  rintro e w1 ⟨rfl, hb1⟩
  have F1 := hidU (Fr.below (C := C) hC hb1)
  have J1 : Hid (J [] C w1) := hJ _ _ _ _ h0 (fun k hk => hb1.block k (hC k hk))
  have HS := hidU (clean_shape p)
  have hz := clean_2000 p
  have HU : Hid (upL p = [] ++ upC (cleanS p)) := rfl
  generalize cleanS p = c0 at HS HU hz
  clear h0 hH hc hb1
  gi_wp2
  gi_loopw [3] (fun v wr => ∃ (pre : List ByteArray) (c : ByteArray) (C1 : Nat → Prop), v = .string c ∧ upL p = pre ++ upC c ∧ Sh c ∧ c.size ≤ 2000 ∧ Fr C W C1 wr ∧ J pre C1 wr) (fun v _ => lenOf v)
  case atStart => exact ⟨[], c0, C, rfl, HU.out, HS.out, hz, F1.out, J1.out⟩
  case round =>
    obtain ⟨pre, c, C1, rfl, hu, hs, hz1, hf, hj⟩ := hrel
    clear F1 J1 HS HU hz
    have HU := hidU hu
    have HS := hidU hs
    clear hu hs
    by_cases h1 : c.size = 0
    · obtain rfl : c = { data := #[] } := by
        obtain ⟨⟨l⟩⟩ := c
        cases l with
        | nil => rfl
        | cons x l => simp [ByteArray.size] at h1
      gi_wp2
      go_end0
      exact ⟨⟨_, rfl⟩, C1, hf, .inl (by rw [HU.out, upC_none (by decide), List.append_nil]; exact hj)⟩
    · have HB : Hid (bt c 0 = 47) := HS.out.elim (fun h => absurd h h1) (fun h => h.1)
      by_cases h2 : c.size = 1
      · obtain rfl : c = { data := #[47] } := root_of h2 HB.out
        gi_wp2
        go_end0
        exact ⟨⟨_, rfl⟩, C1, hf, .inl (by rw [HU.out, upC_none (Nat.le_of_eq one47), List.append_nil]; exact hj)⟩
      · obtain ⟨e1, e2, e3, e4⟩ := upC_step HS.out (by omega)
        have hx : upL p = pre ++ faC c :: upC (faC c) := by rw [HU.out, e1]
        have HX := hidU hx
        have E2 := hidU e2
        obtain ⟨fn, tmps, assign, body, hy, hR⟩ := hY (n - 1) pre (faC c) _ C1 wr hx hf hj
        have hn1 : c.toList.isEmpty = false := by
          cases h : c.toList.isEmpty with
          | false => rfl
          | true => exact absurd (congrArg List.length (List.isEmpty_iff.1 h)) (by rw [Lib.toList_data, Array.length_toList]; exact h1)
        have hn2 : (c.toList == [47]) = false := by
          rw [beq_eq_false_iff_ne]
          intro h
          have := congrArg List.length h
          rw [Lib.toList_data, Array.length_toList] at this
          exact h2 this
        have HE : Hid ((faC c).size < c.size ∧ (faC c).size ≤ 2000) := ⟨e3, by omega⟩
        clear hx e1 e2 hY e3 e4
        gi_wp2
        refine wide_call (folderAbove_any c _ (by omega) (by omega) HB.out) ?_
        rintro e w' ⟨rfl, rfl⟩
        generalize faC c = d at HX E2 HE hy hR
        gi_wp2
        refine ⟨wide_ok, hR.mono ?_⟩
        rintro e W3 ⟨C2, hf2, ⟨rfl, hj2⟩ | ⟨rfl, hj2⟩⟩
        · gi_wp2
          go_roundw
          case rel => exact ⟨pre ++ [d], d, C2, rfl, by rw [HX.out]; simp, E2.out, HE.out.2, hf.trans hf2, hj2⟩
          case measure => simp only [lenOf]; exact HE.out.1
        · gi_wp2
          refine bodyPost_ret (results_none rfl _ _ _) rfl ?_
          exact ⟨⟨_, rfl⟩, C2, hf.trans hf2, .inr ⟨pre ++ [d], ⟨upC d, by rw [HX.out]; simp⟩, hj2⟩⟩
set_option maxHeartbeats 1600000 in
theorem foldersAbove_any (p : ByteArray) (w : World) : Calls Try.prog 33 #[.string p] w fun e w' => e = .returned (.func (.func 47) #[] #[.pointer (some ⟨w.heap.size, 0, none⟩)]) ∧ w' = w.alloc (.cells #[.string p] 9) := by
  go_enter Try.func33, Try.ntmps33
  go_wp2
  go_ret
  exact ⟨rfl, rfl⟩
theorem enters_folders : ∀ args w, (callFunc 47 args).run Try.prog w = .ok (.enter 47 args) w := enters_of Try.func47 (by kernel_rfl) rfl
set_option maxHeartbeats 1600000 in
theorem up_impl (p : ByteArray) (w : World) (hp : p.size ≤ 1048576) :
    Calls Try.prog 10 #[.string p] w fun e w' => ∃ a n cap, e = .returned (.slice a n cap) ∧ OutS w' w.heap.size a n cap (upL p) ∧ Below w.heap.size w w' := by
  go_enter Try.func10, Try.ntmps10
  go_wp2_with fail
  refine (foldersAbove_any p _).mono ?_
  rintro e w1 ⟨rfl, rfl⟩
  have bx := Boxed.new w 9 (.string p)
  go_wp2_with fail
  refine (collect_any 47 _ (upL p) _ _ (folders_seq p w.heap.size hp) enters_folders _ (fun W hW => (hW _ rfl).trans bx) (fun k hk => by rw [hk]; simp) (Nat.le_trans (upL_len p (clean_2000 p)) (by omega))).mono ?_
  rintro e w2 ⟨a, n, cap, rfl, ho, hb⟩
  go_wp2
  go_ret
  exact ⟨a, n, cap, rfl, OutS.low ho (by simp), ((Below.refl _ w).alloc (Nat.le_refl _) _).trans (hb.mono (by simp))⟩
end Go.Proofs.Ytemfbibeoibpeaa
