/-
  What impl's folderAbove, foldersAbove and Up answer: the walks.
  Candidates one behind the other: what pathsFor tells of each, and which of these are new. No program is spoken of.
  What slices.Contains over a row of texts, impl's saysWhere and pathsFor answer: the walks.
  What impl.meantBy's iterator tells: the walk.
  What impl.meantBy's iterator tells where a request does not say where: the walk.
  What impl.candidates' iterator tells, and impl.Candidates: the walks.
  What impl.isFilePath, impl.isFile, impl.FilesOk and impl.Find answer: the walks.
-/
import Derived.Test.YtemfbibeoibpeaaClImplCollect
import Derived.Test.YtemfbibeoibpeaaClImplResolveToUpSeq
namespace Go.Proofs.Ytemfbibeoibpeaa
open Go.RowKit Go.PlainAid Go.Shelf

theorem OutS.low {w : World} {base b n cap : Nat} {a : Option Addr} {xs : List ByteArray} (h : OutS w base a n cap xs) (hb : b ≤ base) : OutS w b a n cap xs :=
  ⟨h.1, fun k => by obtain ⟨g, e, h1⟩ := h.2 k; exact ⟨g, e, ownS_low h1 hb⟩⟩
set_option maxHeartbeats 1600000 in
theorem folderAbove_any (c : ByteArray) (w : World) (h1 : 1 < c.size) (h2 : c.size ≤ 2000) (h0 : bt c 0 = 47) :
    Calls Try.prog 49 #[.string c] w fun e w' => e = .returned (.string (faC c)) ∧ w' = w := by
  obtain ⟨d, hd⟩ : ∃ d, dirTo c c.size = d := ⟨_, rfl⟩
  have hbd := dirTo_bd c h0 c.size (by omega)
  rw [hd] at hbd
  have hla : Lib.lastIndexByte c 47 = (d : Int) - 1 := by
    have := last_dir c c.size (Nat.le_refl _)
    rw [hd] at this
    unfold Lib.lastIndexByte
    omega
  have HF : Hid (faC c = c.extract 0 (max (d - 1) 1)) := by show faC c = _; rw [faC, hd]
  clear hd
  go_enter Try.func49, Try.ntmps49
  go_wp2_with fail
  refine (Try.strings_LastIndexByte _ _ (by omega) _).mono ?_
  rintro e w1 ⟨rfl, rfl⟩
  rw [hla]
  go_wp2
  go_ret
  have hm : (max ((d : Int) - 1) 1).toNat = max (d - 1) 1 := by omega
  exact ⟨ret_str (by rw [HF.out, hm]), rfl⟩
attribute [local go_sem] Oper.semAt_some
def lenOf : Value → Nat | .string s => s.size | _ => 0
set_option maxRecDepth 100000 in
set_option maxHeartbeats 2000000 in
theorem folders_seq (p : ByteArray) (b : Nat) (hp : p.size ≤ 1048576) : SeqC Try.prog 47 #[.pointer (some ⟨b, 0, none⟩)] (upL p) (fun W => Boxed W b 9 (.string p)) (fun k => k = b) := fun n l J Jx C W hH hBC hJ hJx hC h0 hY => by
  refine callsIn_of_wp Try.func47 rfl trivial ?_ rfl
  simp only [Try.ntmps47, List.size_toArray, List.length_cons, List.length_nil, Nat.reduceAdd, Nat.reduceSub, Array.replicate_succ, Array.replicate_zero, List.push_toArray, List.append_toArray, List.nil_append, List.cons_append]
  have hc := hH.cell
  gi_wp2
  refine wide_call (clean_impl p _ (by omega)) ?_
  rintro e w1 ⟨rfl, hb1⟩
  have F1 := hidU (Fr.below (C := C) hC hb1)
  have J1 : Hid (J [] C w1) := hJ _ _ _ _ h0 (fun k hk => hb1.block k (hC k hk))
  have HS := hidU (clean_shape p)
  have hz := clean_2000 p
  have HU : Hid (upL p = [] ++ upC (cleanS p)) := rfl
  generalize cleanS p = c0 at HS HU hz
  clear h0 hH hc hb1
  gi_wp2
  gi_loopw [3] (fun v wr => ∃ (pre : List ByteArray) (c : ByteArray) (C1 : Nat → Prop), v = .string c ∧ upL p = pre ++ upC c ∧ Sh c ∧ c.size ≤ 2000 ∧ Fr C W C1 wr ∧ J pre C1 wr) (fun v _ => lenOf v)
  case atStart => exact ⟨[], c0, C, rfl, HU.out, HS.out, hz, F1.out, J1.out⟩
  case round =>
    obtain ⟨pre, c, C1, rfl, hu, hs, hz1, hf, hj⟩ := hrel
    clear F1 J1 HS HU hz
    have HU := hidU hu
    have HS := hidU hs
    clear hu hs
    by_cases h1 : c.size = 0
    · obtain rfl : c = { data := #[] } := by
        obtain ⟨⟨l⟩⟩ := c
        cases l with
        | nil => rfl
        | cons x l => simp [ByteArray.size] at h1
      gi_wp2
      go_end0
      exact ⟨⟨_, rfl⟩, C1, hf, .inl (by rw [HU.out, upC_none (by decide), List.append_nil]; exact hj)⟩
    · have HB : Hid (bt c 0 = 47) := HS.out.elim (fun h => absurd h h1) (fun h => h.1)
      by_cases h2 : c.size = 1
      · obtain rfl : c = { data := #[47] } := root_of h2 HB.out
        gi_wp2
        go_end0
        exact ⟨⟨_, rfl⟩, C1, hf, .inl (by rw [HU.out, upC_none (Nat.le_of_eq one47), List.append_nil]; exact hj)⟩
      · obtain ⟨e1, e2, e3, e4⟩ := upC_step HS.out (by omega)
        have hx : upL p = pre ++ faC c :: upC (faC c) := by rw [HU.out, e1]
        have HX := hidU hx
        have E2 := hidU e2
        obtain ⟨fn, tmps, assign, body, hy, hR⟩ := hY (n - 1) pre (faC c) _ C1 wr hx hf hj
        have hn1 : c.toList.isEmpty = false := by
          cases h : c.toList.isEmpty with
          | false => rfl
          | true => exact absurd (congrArg List.length (List.isEmpty_iff.1 h)) (by rw [Lib.toList_data, Array.length_toList]; exact h1)
        have hn2 : (c.toList == [47]) = false := by
          rw [beq_eq_false_iff_ne]
          intro h
          have := congrArg List.length h
          rw [Lib.toList_data, Array.length_toList] at this
          exact h2 this
        have HE : Hid ((faC c).size < c.size ∧ (faC c).size ≤ 2000) := ⟨e3, by omega⟩
        clear hx e1 e2 hY e3 e4
        gi_wp2
        refine wide_call (folderAbove_any c _ (by omega) (by omega) HB.out) ?_
        rintro e w' ⟨rfl, rfl⟩
        generalize faC c = d at HX E2 HE hy hR
        gi_wp2
        refine ⟨wide_ok, hR.mono ?_⟩
        rintro e W3 ⟨C2, hf2, ⟨rfl, hj2⟩ | ⟨rfl, hj2⟩⟩
        · gi_wp2
          go_roundw
          case rel => exact ⟨pre ++ [d], d, C2, rfl, by rw [HX.out]; simp, E2.out, HE.out.2, hf.trans hf2, hj2⟩
          case measure => simp only [lenOf]; exact HE.out.1
        · gi_wp2
          refine bodyPost_ret (results_none rfl _ _ _) rfl ?_
          exact ⟨⟨_, rfl⟩, C2, hf.trans hf2, .inr ⟨pre ++ [d], ⟨upC d, by rw [HX.out]; simp⟩, hj2⟩⟩
set_option maxHeartbeats 1600000 in
theorem foldersAbove_any (p : ByteArray) (w : World) : Calls Try.prog 33 #[.string p] w fun e w' => e = .returned (.func (.func 47) #[] #[.pointer (some ⟨w.heap.size, 0, none⟩)]) ∧ w' = w.alloc (.cells #[.string p] 9) := by
  go_enter Try.func33, Try.ntmps33
  go_wp2
  go_ret
  exact ⟨rfl, rfl⟩
theorem enters_folders : ∀ args w, (callFunc 47 args).run Try.prog w = .ok (.enter 47 args) w := enters_of Try.func47 (by kernel_rfl) rfl
set_option maxHeartbeats 1600000 in
theorem up_impl (p : ByteArray) (w : World) (hp : p.size ≤ 1048576) :
    Calls Try.prog 10 #[.string p] w fun e w' => ∃ a n cap, e = .returned (.slice a n cap) ∧ OutS w' w.heap.size a n cap (upL p) ∧ Below w.heap.size w w' := by
  go_enter Try.func10, Try.ntmps10
  go_wp2_with fail
  refine (foldersAbove_any p _).mono ?_
  rintro e w1 ⟨rfl, rfl⟩
  have bx := Boxed.new w 9 (.string p)
  go_wp2_with fail
  refine (collect_any 47 _ (upL p) _ _ (folders_seq p w.heap.size hp) enters_folders _ (fun W hW => (hW _ rfl).trans bx) (fun k hk => by rw [hk]; simp) (Nat.le_trans (upL_len p (clean_2000 p)) (by omega))).mono ?_
  rintro e w2 ⟨a, n, cap, rfl, ho, hb⟩
  go_wp2
  go_ret
  exact ⟨a, n, cap, rfl, OutS.low ho (by simp), ((Below.refl _ w).alloc (Nat.le_refl _) _).trans (hb.mono (by simp))⟩
end Go.Proofs.Ytemfbibeoibpeaa
namespace Go.Proofs.Ytemfbibeoibpeaa
open Go.RowKit Go.PlainAid

def pathsC (b : ByteArray) : List ByteArray := if b.toList.isEmpty then [] else (trio b).filter pathB
def addT (out : List ByteArray) (x : ByteArray) : List ByteArray := if inT out x then out else out ++ [x]
theorem addT_in {out : List ByteArray} {x : ByteArray} (h : inT out x = true) : addT out x = out := by rw [addT, if_pos h]
theorem addT_new {out : List ByteArray} {x : ByteArray} (h : inT out x = false) : addT out x = out ++ [x] := by rw [addT, h]; rfl
theorem addT_pre (out : List ByteArray) (x : ByteArray) : out <+: addT out x := by
  unfold addT
  split
  · exact List.prefix_rfl
  · exact List.prefix_append _ _
theorem foldT_pre (l : List ByteArray) : ∀ out : List ByteArray, out <+: l.foldl addT out := by
  induction l with
  | nil => intro out; exact List.prefix_rfl
  | cons x l ih => intro out; exact (addT_pre out x).trans (ih _)
theorem foldC_filter (l : List ByteArray) : ∀ out : List ByteArray, l.foldl addC out = (l.filter pathB).foldl addT out := by
  induction l with
  | nil => intro out; rfl
  | cons x l ih =>
    intro out
    rw [List.foldl_cons, ih, List.filter_cons]
    cases hp : pathB x with
    | false => rw [addC_path hp]; rfl
    | true =>
      rw [if_pos rfl, List.foldl_cons]
      congr 1
      cases hi : inT out x with
      | true => rw [addC_in hi, addT_in hi]
      | false => rw [addC_yes hp hi, addT_new hi]
theorem candB_paths (out : List ByteArray) (b : ByteArray) : candB out b = (pathsC b).foldl addT out := by
  unfold candB pathsC
  split
  · rfl
  · exact foldC_filter _ _
theorem candB_pre (out : List ByteArray) (b : ByteArray) : out <+: candB out b := by rw [candB_paths]; exact foldT_pre _ _
theorem candF_snoc (bs : List ByteArray) (b : ByteArray) : candF (bs ++ [b]) = candB (candF bs) b := by rw [candF, List.foldl_append]; rfl
theorem candF_pre (l : List ByteArray) : ∀ bs : List ByteArray, candF bs <+: candF (bs ++ l) := by
  induction l with
  | nil => intro bs; rw [List.append_nil]; exact List.prefix_rfl
  | cons x l ih =>
    intro bs
    have h := ih (bs ++ [x])
    rw [List.append_assoc, List.singleton_append, candF_snoc] at h
    exact (candB_pre _ _).trans h
theorem pathsC_len (b : ByteArray) : (pathsC b).length ≤ 3 := by
  unfold pathsC
  split
  · exact Nat.zero_le _
  · exact List.length_filter_le _ _
theorem clean_none {f : ByteArray} (h : pathB f = false) : upL f = [] := up_none f (by rw [cleanS_no h]; exact Nat.zero_le _)
theorem cand_base (f sp : ByteArray) : candF (baseC f sp) = candS f sp := by
  unfold candS
  cases hp : pathB f with
  | true => rfl
  | false =>
    show candF (baseC f sp) = []
    unfold baseC
    split
    · have e : resolveS f sp = { data := #[] } := by rw [resolveS, hp]; rfl
      rw [e]
      exact candB_empty (by rw [Lib.toList_data]; rfl)
    · rw [clean_none hp]
      rfl
theorem filter_take {l : List ByteArray} {k : Nat} {x : ByteArray} (h : l[k]? = some x) (p : ByteArray → Bool) : (l.take (k + 1)).filter p = (l.take k).filter p ++ if p x then [x] else [] := by
  obtain ⟨hk, rfl⟩ := List.getElem?_eq_some_iff.1 h
  rw [List.take_succ_eq_append_getElem hk, List.filter_append]
  cases hp : p l[k] <;> simp [hp]
end Go.Proofs.Ytemfbibeoibpeaa
namespace Go.Proofs.Ytemfbibeoibpeaa
open Go.RowKit Go.PlainAid

theorem inT_drop {l : List ByteArray} {x : ByteArray} {j : Nat} (hj : j < l.length) : inT (l.drop j) x = ((l.getD j { data := #[] }).toList == x.toList || inT (l.drop (j + 1)) x) := by
  rw [List.drop_eq_getElem_cons hj]
  simp only [inT, List.any_cons, List.getD, List.getElem?_eq_getElem hj, Option.getD_some]
set_option maxRecDepth 100000 in
set_option maxHeartbeats 1600000 in
theorem indexS_any (base g n cap : Nat) (l : List ByteArray) (x : ByteArray) (w : World) (h : OwnS w base 9 g n cap l) (hl : n ≤ 1000000) :
    Calls Try.prog 65 #[.slice (some ⟨g, 0, none⟩) n cap, .string x] w fun e w' => (∃ v : Int, e = .returned (.int .i64 v) ∧ decide (0 ≤ v) = inT l x) ∧ w' = w := by
  have HO := hidU h
  have HN := hidU h.2
  clear h
  go_enter Try.func65, Try.ntmps65
  go_wp2
  go_loopg [8] (n + 1) (fun k i wr => ∃ j : Nat, i = .int .i64 j ∧ j + k = n + 1 ∧ inT (l.drop j) x = inT l x ∧ wr = w)
  case atStart => exact ⟨0, rfl, by omega, by simp, rfl⟩
  case round =>
    obtain ⟨j, rfl, hj, he, rfl⟩ := hrel
    have HE := hidU he
    clear he
    by_cases hlt : j < n
    · have hlti : (j : Int) < (n : Int) := by omega
      have hc := ownS_cell HO.out j hlt
      obtain ⟨j1, hj1⟩ : ∃ j1, j1 = j + 1 := ⟨_, rfl⟩
      have ej : (j : Int) + 1 = (j1 : Int) := by omega
      have HJ := hidU hj1
      clear hj1
      have HS : Hid (inT (l.drop j) x = ((l.getD j { data := #[] }).toList == x.toList || inT (l.drop (j + 1)) x)) := inT_drop (by rw [← HN.out]; exact hlt)
      generalize l.getD j { data := #[] } = y at hc HS
      cases ey : (x.toList == y.toList) with
      | true =>
        go_wp2
        go_ret
        refine ⟨⟨_, rfl, ?_⟩, rfl⟩
        have e2 : (y.toList == x.toList) = true := by rw [beq_iff_eq] at ey ⊢; exact ey.symm
        rw [← HE.out, HS.out, e2]
        simp
      | false =>
        go_wp2
        go_roundg (gk - 1)
        case rel =>
          have e2 : (y.toList == x.toList) = false := by
            rw [beq_eq_false_iff_ne] at ey ⊢; exact fun e => ey e.symm
          refine ⟨j1, rfl, by have := HJ.out; omega, ?_, rfl⟩
          rw [← HE.out, HS.out, e2, HJ.out]
          simp
        case measure => omega
    · have hlti : ¬ (j : Int) < (n : Int) := by omega
      go_wp2
      go_ret
      refine ⟨⟨_, rfl, ?_⟩, rfl⟩
      rw [← HE.out, List.drop_eq_nil_of_le (by rw [← HN.out]; omega)]
      rfl
set_option maxHeartbeats 1600000 in
theorem containsS_any (base g n cap : Nat) (l : List ByteArray) (x : ByteArray) (w : World) (h : OwnS w base 9 g n cap l) (hl : n ≤ 1000000) :
    Calls Try.prog 54 #[.slice (some ⟨g, 0, none⟩) n cap, .string x] w fun e w' => e = .returned (.bool (inT l x)) ∧ w' = w := by
  go_enter Try.func54, Try.ntmps54
  go_wp2_with fail
  refine (indexS_any base g n cap l x _ h hl).mono ?_
  rintro e w' ⟨⟨v, rfl, hv⟩, rfl⟩
  go_wp2
  go_ret
  exact ⟨by rw [← hv]; rfl, rfl⟩
set_option maxHeartbeats 1600000 in
theorem saysWhere_any (sp : ByteArray) (w : World) :
    Calls Try.prog 63 #[.string sp] w fun e w' => e = .returned (.bool (relB sp)) ∧ w' = w := by
  have HR : Hid (relB sp = (begB { data := #[47] } sp || begB { data := #[46, 47] } sp || begB { data := #[46, 46, 47] } sp)) := rfl
  have H1 : Hid (Lib.hasPrefix sp.data.toList [47] = begB { data := #[47] } sp) := prefix_beg sp { data := #[47] }
  have H2 : Hid (Lib.hasPrefix sp.data.toList [46, 47] = begB { data := #[46, 47] } sp) := prefix_beg sp { data := #[46, 47] }
  have H3 : Hid (Lib.hasPrefix sp.data.toList [46, 46, 47] = begB { data := #[46, 46, 47] } sp) := prefix_beg sp { data := #[46, 46, 47] }
  generalize begB { data := #[47] } sp = b1 at H1 HR
  generalize begB { data := #[46, 47] } sp = b2 at H2 HR
  generalize begB { data := #[46, 46, 47] } sp = b3 at H3 HR
  generalize relB sp = r at HR
  go_enter Try.func63, Try.ntmps63
  go_wp2_with fail
  refine (Try.strings_HasPrefix _ _ _).mono ?_
  rintro e w' ⟨rfl, rfl⟩
  rw [H1.out]
  cases b1 with
  | true =>
    go_wp2
    go_ret
    exact ⟨by rw [HR.out]; rfl, rfl⟩
  | false =>
    go_wp2_with fail
    refine (Try.strings_HasPrefix _ _ _).mono ?_
    rintro e w' ⟨rfl, rfl⟩
    rw [H2.out]
    cases b2 with
    | true =>
      go_wp2
      go_ret
      exact ⟨by rw [HR.out]; rfl, rfl⟩
    | false =>
      go_wp2_with fail
      refine (Try.strings_HasPrefix _ _ _).mono ?_
      rintro e w' ⟨rfl, rfl⟩
      rw [H3.out]
      go_wp2
      go_ret
      exact ⟨by rw [HR.out]; cases b3 <;> rfl, rfl⟩
def endC (k : Nat) : ByteArray := [{ data := #[] }, tJs, tIndex].getD k { data := #[] }
theorem run_index_three (k : Nat) (hk : k < 3) (w : World) : (Instr.index 72 (.agg #[.string { data := #[] }, .string tJs, .string tIndex]) (.int .i64 (k : Int))).run Try.prog w = .ok (.string (endC k)) w := by
  match k, hk with
  | 0, _ =>
    show _ = _
    kernel_rfl
  | 1, _ =>
    show _ = _
    kernel_rfl
  | 2, _ =>
    show _ = _
    kernel_rfl
theorem trio_end (b : ByteArray) {k : Nat} (hk : k < 3) : (trio b)[k]? = some (b ++ endC k) := by
  match k, hk with
  | 0, _ =>
    show some b = some (b ++ { data := #[] })
    congr 1
    apply ByteArray.ext
    simp
  | 1, _ => rfl
  | 2, _ => rfl
set_option maxRecDepth 100000 in
set_option maxHeartbeats 1600000 in
theorem pathsFor_any (b : ByteArray) (w : World) (hb : b.size ≤ 1048576) :
    Calls Try.prog 53 #[.string b] w fun e w' => ∃ a n cap, e = .returned (.slice a n cap) ∧ OutS w' w.heap.size a n cap (pathsC b) ∧ Below w.heap.size w w' := by
  obtain ⟨i0, hi, hz0, hz1, hz2⟩ := info_parts Try.infoStr
  cases h0 : b.toList.isEmpty with
  | true =>
    go_enter Try.func53, Try.ntmps53
    go_wp2
    go_ret
    exact ⟨_, _, _, rfl, by rw [pathsC, if_pos h0]; exact OutS.nil _ _ _ _, Below.refl _ _⟩
  | false =>
    have HP : Hid (pathsC b = (trio b).filter pathB) := by show pathsC b = _; rw [pathsC, h0]; rfl
    have O0 : Hid (OwnS (w.alloc (.cells #[] 9)) w.heap.size 9 w.heap.size 0 0 []) := ⟨World.ownsRow_lit w #[] 0 (Nat.le_refl _) (by unfold maxLen; omega) rfl, rfl⟩
    have B0 : Hid (Below w.heap.size w (w.alloc (.cells #[] 9))) := (Below.refl _ _).alloc (Nat.le_refl _) _
    go_enter Try.func53, Try.ntmps53
    go_wp2
    go_loopw [3, 11] (fun v i wr => ∃ (k g n cap : Nat), k ≤ 3 ∧ i = .int .i64 k ∧ v = .slice (some ⟨g, 0, none⟩) n cap ∧ OwnS wr w.heap.size 9 g n cap (((trio b).take k).filter pathB) ∧ Below w.heap.size w wr) (fun _ i _ => (3 - intOf i).toNat)
    case atStart => exact ⟨0, w.heap.size, 0, 0, by omega, rfl, rfl, O0.out, B0.out⟩
    case round =>
      obtain ⟨k, g, n, cap, hk, rfl, rfl, hown, hbel⟩ := hrel
      clear O0 B0
      have HO := hidU hown
      have HB := hidU hbel
      have hsz := hbel.size
      have hn3 : n ≤ 3 := by rw [ownS_len hown]; exact Nat.le_trans (List.length_filter_le _ _) (by simp; omega)
      clear hown hbel
      by_cases hlt : k < 3
      · have hlti : (k : Int) < 3 := by omega
        have hx := trio_end b hlt
        obtain ⟨x, hxs⟩ : ∃ x, b ++ endC k = x := ⟨_, rfl⟩
        rw [hxs] at hx
        have hxz : x.size ≤ 9223372036854775807 := by
          obtain ⟨y, hy, hyz⟩ := trio_at b hlt
          rw [hx] at hy
          obtain rfl := Option.some.inj hy
          omega
        have HF := hidU (filter_take hx pathB)
        have hri := run_index_three k hlt wr
        have HK : Hid (k < 3) := hlt
        have henz : (endC k).size ≤ 9 := by
          match k, hlt with
          | 0, _ => decide
          | 1, _ => decide
          | 2, _ => decide
        generalize endC k = en at hxs hri henz
        clear hx
        obtain ⟨k1, hk1⟩ : ∃ k1, k1 = k + 1 := ⟨_, rfl⟩
        have ek : (k : Int) + 1 = (k1 : Int) := by omega
        have HK1 := hidU hk1
        clear hk1
        go_wp2_with fail
        refine (isPath_any x _ hxz).mono ?_
        rintro e w' ⟨rfl, rfl⟩
        cases hp : pathB x with
        | true =>
          have hown := HO.out
          go_wp2_with (first | (at_builtin; refine app_str w' rfl _ _ 25 rfl w.heap.size 9 i0 _ Try.underlying25 hi hz0 hz1 hz2 rfl g n cap _ (by rfl) hown x (by rfl) (by omega) hsz ?_))
          intro g2 cap2 w2 o2 b2
          go_wp2
          go_roundw
          case rel =>
            refine ⟨k1, g2, n + 1, cap2, ?_, rfl, rfl, ?_, HB.out.trans b2⟩
            · have := HK.out; have := HK1.out; omega
            · rw [HK1.out, HF.out, hp]; exact o2
          case measure =>
            have := HK.out; have := HK1.out
            simp only [intOf]
            omega
        | false =>
          go_wp2
          go_roundw
          case rel =>
            refine ⟨k1, g, n, cap, ?_, rfl, rfl, ?_, HB.out⟩
            · have := HK.out; have := HK1.out; omega
            · rw [HK1.out, HF.out, hp]; simpa using HO.out
          case measure =>
            have := HK.out; have := HK1.out
            simp only [intOf]
            omega
      · obtain rfl : k = 3 := by omega
        go_wp2
        go_ret
        exact ⟨_, _, _, rfl, OutS.own (by rw [HP.out]; exact HO.out), HB.out⟩
end Go.Proofs.Ytemfbibeoibpeaa
namespace Go.Proofs.Ytemfbibeoibpeaa
open Go.RowKit Go.PlainAid Go.Shelf

theorem below_of_drew {w w' : World} (h : Below w.drew.heap.size w.drew w') : Below w.heap.size w w' := ⟨h.os, h.tape, h.output, h.size, h.block⟩
theorem yield_or {e : Ending} {A B : Prop} (h : (e = .returned (.bool true) ∧ A) ∨ (e = .returned (.bool false) ∧ B)) : ∃ b, e = .returned (.bool b) ∧ ((b = true ∧ A) ∨ (b = false ∧ B)) := by
  rcases h with ⟨h1, h2⟩ | ⟨h1, h2⟩
  · exact ⟨true, h1, .inl ⟨rfl, h2⟩⟩
  · exact ⟨false, h1, .inr ⟨rfl, h2⟩⟩
theorem wide_callR {n k l : Nat} {P : Program} {f : FuncId} {args : Array Value} {w : World} {R R' : Ending → World → Prop} (h : Calls P f args w R) (hr : ∀ e w', R e w' → R' e w') : (Fence.wide.inRound l).fn f ∧ ((Fence.wide.inRound l).depth.isSome = true → 1 ≤ k) ∧ CallsIn (Fence.wide.inRound l) n P f args w R' := ⟨trivial, fun h => (by cases h), CallsIn.inRound l ((callsIn_wide.2 h).mono hr)⟩
theorem round_in {n l l' : Nat} {P : Program} {f : FuncId} {tmps : Array Value} {assign body : Code} {w : World} {R : Ending → World → Prop} (h : RoundIn Fence.wide n P l f tmps assign body w R) : RoundIn (Fence.wide.inRound l') n P l f tmps assign body w R := h
attribute [local go_sem] Oper.semAt_some
set_option maxRecDepth 100000 in
set_option maxHeartbeats 2000000 in
theorem meant_rel (f sp : ByteArray) (bs bf : Nat) (hf : f.size ≤ 1048576) (hs : sp.size ≤ 1048576) (hr : relB sp = true) : SeqC Try.prog 62 #[.pointer (some ⟨bs, 0, none⟩), .pointer (some ⟨bf, 0, none⟩)] (baseC f sp) (fun W => Boxed W bs 9 (.string sp) ∧ Boxed W bf 9 (.string f)) (fun k => k = bs ∨ k = bf) := fun n l J Jx C W hH hBC hJ hJx hC h0 hY => by
  refine callsIn_of_wp Try.func62 rfl trivial ?_ rfl
  simp only [Try.ntmps62, List.size_toArray, List.length_cons, List.length_nil, Nat.reduceAdd, Nat.reduceSub, Array.replicate_succ, Array.replicate_zero, List.push_toArray, List.append_toArray, List.nil_append, List.cons_append]
  obtain ⟨W0, hW0⟩ : ∃ W0, W.alloc (.cells #[.func (.yield l) #[] #[]] 39) = W0 := ⟨_, rfl⟩
  have by0 : Boxed W0 W.heap.size 39 (.func (.yield l) #[] #[]) := by rw [← hW0]; exact Boxed.new W _ _
  have b0 : Below W.heap.size W W0 := by rw [← hW0]; exact (Below.refl _ _).alloc (Nat.le_refl _) _
  have bs0 : Boxed W0 bs 9 (.string sp) := (b0.block bs hH.1.lt).trans hH.1
  have bf0 : Boxed W0 bf 9 (.string f) := (b0.block bf hH.2.lt).trans hH.2
  have hc1 := bs0.cell
  have hmx : Try.prog.follows .mixedOrders = true := by kernel_rfl
  gi_wp2
  refine wide_call (saysWhere_any sp _) ?_
  rintro e w1 ⟨rfl, rfl⟩
  rw [hr]
  clear hW0
  have hc2 := bf0.cell
  have hc3 := by0.cell
  have HX : Hid (baseC f sp = [resolveS f sp]) := by show baseC f sp = _; rw [baseC, hr]; rfl
  obtain ⟨x, hx⟩ : ∃ x, resolveS f sp = x := ⟨_, rfl⟩
  rw [hx] at HX
  have HR : Hid (∀ w, Calls Try.prog 64 #[.string f, .string sp] w fun e w' => e = .returned (.string x) ∧ Below w.heap.size w w') := fun w => by rw [← hx]; exact resolve_impl f sp w (by omega) hs
  clear hx
  have HN : Hid (∀ w2, Below w1.heap.size w1 w2 → Fr C W C w2 ∧ J [] C w2) := fun w2 h2 => by
    have hb := b0.trans (h2.mono b0.size)
    exact ⟨Fr.below hC hb, hJ _ _ _ _ h0 (fun k hk => hb.block k (hC k hk))⟩
  gi_wp2
  gi_region_with_o (first | (refine wide_call (HR.out _) ?_; rintro e w2 ⟨rfl, hb2'⟩; have hb2 := below_of_drew hb2'; have hc1' := (hb2.cell (p := ⟨bs, 0, none⟩) bs0.lt).trans hc1; have hc2' := (hb2.cell (p := ⟨bf, 0, none⟩) bf0.lt).trans hc2; have hc3' := (hb2.cell (p := ⟨W.heap.size, 0, none⟩) by0.lt).trans hc3; obtain ⟨fn, tm, asg, bd, hy, hR⟩ := hY (n - 1) [] x [] C w2 HX.out (HN.out w2 hb2).1 (HN.out w2 hb2).2) | (refine ⟨wide_ok, hR.mono ?_⟩; rintro e W3 ⟨C2, hf2, hj⟩; obtain ⟨bv, rfl, hj2⟩ := yield_or hj))
  all_goals gi_wp2
  all_goals refine bodyPost_ret (results_none rfl _ _ _) rfl ?_
  all_goals exact ⟨⟨_, rfl⟩, C2, (HN.out w2 hb2).1.trans hf2, hj2.elim (fun h => .inl (by rw [HX.out]; exact h.2)) (fun h => .inr ⟨[x], by rw [HX.out]; exact List.prefix_rfl, h.2⟩)⟩

end Go.Proofs.Ytemfbibeoibpeaa
namespace Go.Proofs.Ytemfbibeoibpeaa
open Go.RowKit Go.PlainAid Go.Shelf

attribute [local go_sem] Oper.semAt_some
set_option maxRecDepth 100000 in
set_option maxHeartbeats 2000000 in
theorem meant_lib (f sp : ByteArray) (bs bf : Nat) (hf : f.size ≤ 1048576) (hs : sp.size ≤ 1048576) (hr : relB sp = false) : SeqC Try.prog 62 #[.pointer (some ⟨bs, 0, none⟩), .pointer (some ⟨bf, 0, none⟩)] (baseC f sp) (fun W => Boxed W bs 9 (.string sp) ∧ Boxed W bf 9 (.string f)) (fun k => k = bs ∨ k = bf) := fun n l J Jx C W hH hBC hJ hJx hC h0 hY => by
  refine callsIn_of_wp_marks Try.func62 rfl trivial ?_ rfl
  simp only [Try.ntmps62, List.size_toArray, List.length_cons, List.length_nil, Nat.reduceAdd, Nat.reduceSub, Array.replicate_succ, Array.replicate_zero, List.push_toArray, List.append_toArray, List.nil_append, List.cons_append]
  obtain ⟨W0, hW0⟩ : ∃ W0, W.alloc (.cells #[.func (.yield l) #[] #[]] 39) = W0 := ⟨_, rfl⟩
  have by0 : Boxed W0 W.heap.size 39 (.func (.yield l) #[] #[]) := by rw [← hW0]; exact Boxed.new W _ _
  have b0 : Below W.heap.size W W0 := by rw [← hW0]; exact (Below.refl _ _).alloc (Nat.le_refl _) _
  have bs0 : Boxed W0 bs 9 (.string sp) := (b0.block bs hH.1.lt).trans hH.1
  have bf0 : Boxed W0 bf 9 (.string f) := (b0.block bf hH.2.lt).trans hH.2
  have hbsC : ¬ C bs := hBC bs (.inl rfl)
  have hbs : bs < W.heap.size := hH.1.lt
  have hc1 := bs0.cell
  have hmx : Try.prog.follows .mixedOrders = true := by kernel_rfl
  gi_wp2
  refine wide_call (saysWhere_any sp _) ?_
  rintro e w1 ⟨rfl, rfl⟩
  rw [hr]
  clear hW0
  have hc2 := bf0.cell
  gi_wp2
  refine wide_call (foldersAbove_any f _) ?_
  rintro e w' ⟨rfl, rfl⟩
  obtain ⟨w2, hw2⟩ : ∃ w2, w1.alloc (.cells #[.string f] 9) = w2 := ⟨_, rfl⟩
  have bb2 : Boxed w2 w1.heap.size 9 (.string f) := by rw [← hw2]; exact Boxed.new w1 _ _
  have b2 : Below w1.heap.size w1 w2 := by rw [← hw2]; exact (Below.refl _ _).alloc (Nat.le_refl _) _
  have bs2 : Boxed w2 bs 9 (.string sp) := (b2.block bs bs0.lt).trans bs0
  have by2 : Boxed w2 W.heap.size 39 (.func (.yield l) #[] #[]) := (b2.block W.heap.size by0.lt).trans by0
  have hx : baseC f sp = (upL f).map (libC sp) := by rw [baseC, hr]; rfl
  have HX := hidU hx
  have hbw : Below W.heap.size W w2 := b0.trans (b2.mono b0.size)
  clear hx
  rw [hw2]
  gi_wp2
  refine wpIn_range_sep (gf := 47) rfl enters_folders (folders_seq f w1.heap.size hf) (fun V hV => (hV _ rfl).trans bb2) (fun k hk => by rw [hk]; exact bb2.lt) rfl
    (fun pre C W => J (pre.map (libC sp)) C W) (fun c pre C W => c = .ret ∧ Jx (pre.map (libC sp)) C W) (fun pre C W W' h hs => hJ _ _ _ _ h hs) (fun c pre C W W' h hs => ⟨h.1, hJx _ _ _ _ h.2 hs⟩)
    C (fun k hk h => by have := hC k h; have := b0.size; omega) (fun k hk => Nat.lt_of_lt_of_le (hC k hk) hbw.size) (hJ _ _ _ _ h0 (fun k hk => hbw.block k (hC k hk)))
    (fun x => { tmps := #[.func (.yield l) #[] #[], .pointer (some ⟨bs, 0, none⟩), .pointer (some ⟨bf, 0, none⟩), .pointer (some ⟨W.heap.size, 0, none⟩), .string x, .string sp, .bool false, undef, undef, undef, undef, undef, .string f, .func (.func 47) #[] #[.pointer (some ⟨w1.heap.size, 0, none⟩)], .string x, undef, undef, undef, undef, undef, undef, undef, undef], defers := [] }) ?assign ?body ?done ?stop
  case assign =>
    intro l m x W K hK
    gi_wp2
    exact hK
  case body =>
    rintro l' m pre x rest C1 V hx hfr hj
    have hxz : x.size ≤ 2001 := by
      have := upL_size f x (by rw [hx]; simp)
      have := clean_2000 f
      omega
    have hxz5 : (x ++ { data := #[47, 108, 105, 98, 47] } : ByteArray).size ≤ 2006 := by rw [ByteArray.size_append]; show x.size + 5 ≤ _; omega
    have bsV : Boxed V bs 9 (.string sp) := (hfr.same bs bs2.lt hbsC).trans bs2
    have byV : Boxed V W.heap.size 39 (.func (.yield l) #[] #[]) := (hfr.same _ by2.lt (fun h => by have := hC _ h; omega)).trans by2
    have hv1 := bsV.cell
    have hv2 := byV.cell
    have HR : Hid (∀ w, Calls Try.prog 48 #[.string (x ++ { data := #[47, 108, 105, 98, 47] } ++ sp)] w fun e w' => e = .returned (.string (libC sp x)) ∧ Below w.heap.size w w') := fun w => clean_impl _ w (by rw [ByteArray.size_append]; omega)
    have HL : Hid (baseC f sp = pre.map (libC sp) ++ libC sp x :: rest.map (libC sp)) := by show baseC f sp = _; rw [HX.out, hx]; simp
    have HM : Hid ((pre ++ [x]).map (libC sp) = pre.map (libC sp) ++ [libC sp x]) := by show _ = _; simp
    have HN : Hid (∀ w2, Below V.heap.size V w2 → Fr C W C1 w2 ∧ J (pre.map (libC sp)) C1 w2) := fun w3 h3 =>
      ⟨(Fr.below hC hbw).trans (hfr.trans (Fr.below hfr.lt h3)), hJ _ _ _ _ hj (fun k hk => h3.block k (hfr.lt k hk))⟩
    have HF : Hid (∀ w2, Below V.heap.size V w2 → Fr C1 V C1 w2) := fun w3 h3 => Fr.below hfr.lt h3
    generalize libC sp x = y at HR HL HM
    clear hx hj hc1 hc2
    gi_wp2
    gi_region_with_o (first | (refine wide_callR (HR.out _) ?_; rintro e w3 ⟨rfl, hb3'⟩; have hb3 := below_of_drew hb3'; have hv1' := (hb3.cell (p := ⟨bs, 0, none⟩) bsV.lt).trans hv1; have hv2' := (hb3.cell (p := ⟨W.heap.size, 0, none⟩) byV.lt).trans hv2; obtain ⟨fn, tm, asg, bd, hy, hR'⟩ := hY (m - 1) (pre.map (libC sp)) y (rest.map (libC sp)) C1 w3 HL.out (HN.out w3 hb3).1 (HN.out w3 hb3).2; have hR := round_in (l' := l') hR') | (refine ⟨wide_ok, hR.mono ?_⟩; rintro e W3 ⟨C2, hf2, hj⟩; obtain ⟨bv, rfl, hj2⟩ := yield_or hj))
    all_goals rcases hj2 with ⟨rfl, hj2⟩ | ⟨rfl, hj2⟩
    all_goals gi_wp2
    all_goals first
      | exact ⟨C2, (HF.out w3 hb3).trans hf2, by show J ((pre ++ [x]).map (libC sp)) C2 W3; rw [HM.out]; exact hj2⟩
      | exact ⟨C2, (HF.out w3 hb3).trans hf2, rfl, by show Jx ((pre ++ [x]).map (libC sp)) C2 W3; rw [HM.out]; exact hj2⟩
  case done =>
    rintro D C1 V hD hfr hnD hj hK
    gi_wp2
    refine ⟨by simp, .inl ⟨_, _, rfl, run_takeDeferred hK, ?_⟩⟩
    refine ⟨_, results_none rfl _ _ _, ⟨_, rfl⟩, C1, ((Fr.below hC hbw).trans hfr).put (Nat.le_trans hbw.size hD) _, .inl ?_⟩
    rw [HX.out]
    exact hJ _ _ _ _ hj (put_same hnD)
  case stop =>
    rintro D c pre C1 V hD hpre hfr hnD ⟨rfl, hj⟩ hK
    gi_wp2
    refine ⟨by simp, .inl ⟨_, _, rfl, run_takeDeferred hK, ?_⟩⟩
    refine ⟨_, results_none rfl _ _ _, ⟨_, rfl⟩, C1, ((Fr.below hC hbw).trans hfr).put (Nat.le_trans hbw.size hD) _, .inr ⟨_, ?_, hJx _ _ _ _ hj (put_same hnD)⟩⟩
    rw [HX.out]
    exact List.IsPrefix.map _ hpre
theorem meant_seq (f sp : ByteArray) (bs bf : Nat) (hf : f.size ≤ 1048576) (hs : sp.size ≤ 1048576) : SeqC Try.prog 62 #[.pointer (some ⟨bs, 0, none⟩), .pointer (some ⟨bf, 0, none⟩)] (baseC f sp) (fun W => Boxed W bs 9 (.string sp) ∧ Boxed W bf 9 (.string f)) (fun k => k = bs ∨ k = bf) := by
  cases hr : relB sp with
  | true => exact meant_rel f sp bs bf hf hs hr
  | false => exact meant_lib f sp bs bf hf hs hr
set_option maxHeartbeats 1600000 in
theorem meantBy_any (f sp : ByteArray) (w : World) : Calls Try.prog 52 #[.string f, .string sp] w fun e w' => e = .returned (.func (.func 62) #[] #[.pointer (some ⟨w.heap.size + 1, 0, none⟩), .pointer (some ⟨w.heap.size, 0, none⟩)]) ∧ w' = (w.alloc (.cells #[.string f] 9)).alloc (.cells #[.string sp] 9) := by
  go_enter Try.func52, Try.ntmps52
  go_wp2
  go_ret
  exact ⟨rfl, rfl⟩
theorem enters_meant : ∀ args w, (callFunc 62 args).run Try.prog w = .ok (.enter 62 args) w := enters_of Try.func62 (by kernel_rfl) rfl
end Go.Proofs.Ytemfbibeoibpeaa
namespace Go.Proofs.Ytemfbibeoibpeaa
open Go.RowKit Go.PlainAid Go.Shelf

attribute [local go_sem] Oper.semAt_some

def CandI (J : List ByteArray → (Nat → Prop) → World → Prop) (n₀ t : Nat) (out : List ByteArray) (Cx : Nat → Prop) (W : World) : Prop :=
  ∃ (C1 : Nat → Prop) (g n cap : Nat), Cx = (fun k => C1 k ∨ k = t ∨ k = g) ∧ ¬ C1 t ∧ ¬ C1 g ∧ J out C1 W ∧ Boxed W t 25 (.slice (some ⟨g, 0, none⟩) n cap) ∧ OwnS W n₀ 9 g n cap out
theorem foldT_len (l : List ByteArray) : ∀ out : List ByteArray, (l.foldl addT out).length ≤ out.length + l.length := by
  induction l with
  | nil => intro out; exact Nat.le_refl _
  | cons x l ih =>
    intro out
    have h1 := ih (addT out x)
    have h2 : (addT out x).length ≤ out.length + 1 := by
      unfold addT
      split
      · omega
      · simp
    rw [List.foldl_cons, List.length_cons]
    omega
theorem own_iff (g n cap k : Nat) : (k = g) ↔ (Value.slice (some ⟨g, 0, none⟩) n cap).ownBlock = some k := by
  simp only [Value.ownBlock, Option.some.injEq]
  exact eq_comm
theorem CandI.loc {J : List ByteArray → (Nat → Prop) → World → Prop} (hJ : Loc J) (n₀ t : Nat) : Loc (CandI J n₀ t) := by
  rintro out Cx W W' ⟨C1, g, n, cap, rfl, h1, h2, h3, h4, h5⟩ hs
  exact ⟨C1, g, n, cap, rfl, h1, h2, hJ _ _ _ _ h3 (fun k hk => hs k (.inl hk)), (hs t (.inr (.inl rfl))).trans h4, ownS_keep h5 (hs g (.inr (.inr rfl)))⟩
def CandX (Jx : List ByteArray → (Nat → Prop) → World → Prop) (xs : List ByteArray) (Cx : Nat → Prop) (W : World) : Prop := ∃ (C1 : Nat → Prop) (q : List ByteArray), (∀ k, C1 k → Cx k) ∧ q <+: xs ∧ Jx q C1 W
theorem CandX.loc {Jx : List ByteArray → (Nat → Prop) → World → Prop} (hJ : Loc Jx) (xs : List ByteArray) : Loc (fun (_ : List ByteArray) => CandX Jx xs) := by
  rintro _ Cx W W' ⟨C1, q, h1, h2, h3⟩ hs
  exact ⟨C1, q, h1, h2, hJ _ _ _ _ h3 (fun k hk => hs k (h1 k hk))⟩

set_option maxRecDepth 100000 in
set_option maxHeartbeats 2000000 in
theorem cand_seq (f sp : ByteArray) (bf bs : Nat) (hf : f.size ≤ 1048576) (hs : sp.size ≤ 1048576) : SeqC Try.prog 51 #[.pointer (some ⟨bf, 0, none⟩), .pointer (some ⟨bs, 0, none⟩)] (candS f sp) (fun W => Boxed W bf 9 (.string f) ∧ Boxed W bs 9 (.string sp)) (fun k => k = bf ∨ k = bs) := fun n l J Jx C W hH hBC hJ hJx hC h0 hY => by
  obtain ⟨i0, hi, hz0, hz1, hz2⟩ := info_parts Try.infoStr
  refine callsIn_of_wp_marks Try.func51 rfl trivial ?_ rfl
  simp only [Try.ntmps51, List.size_toArray, List.length_cons, List.length_nil, Nat.reduceAdd, Nat.reduceSub, Array.replicate_succ, Array.replicate_zero, List.push_toArray, List.append_toArray, List.nil_append, List.cons_append]
  obtain ⟨W0, hW0⟩ : ∃ W0, ((W.alloc (.cells #[.func (.yield l) #[] #[]] 39)).alloc (.cells #[] 9)).alloc (.cells #[.slice (some ⟨W.heap.size + 1, 0, none⟩) 0 0] 25) = W0 := ⟨_, rfl⟩
  have b0 : Below W.heap.size W W0 := by rw [← hW0]; exact (((Below.refl _ _).alloc (Nat.le_refl _) _).alloc (by simp) _).alloc (by simp; omega) _
  have HZ : Hid (W0.heap.size = W.heap.size + 3) := by show _ = _; rw [← hW0]; simp
  have by0 : Boxed W0 W.heap.size 39 (.func (.yield l) #[] #[]) := by rw [← hW0]; exact ((Boxed.new W _ _).alloc _).alloc _
  have bt0 : Boxed W0 (W.heap.size + 1 + 1) 25 (.slice (some ⟨W.heap.size + 1, 0, none⟩) 0 0) := by
    rw [← hW0]
    have := Boxed.new ((W.alloc (.cells #[.func (.yield l) #[] #[]] 39)).alloc (.cells #[] 9)) 25 (.slice (some ⟨W.heap.size + 1, 0, none⟩) 0 0)
    rw [World.size_alloc, World.size_alloc] at this
    exact this
  have ow0 : OwnS W0 W.heap.size 9 (W.heap.size + 1) 0 0 [] := by
    have h1 := World.ownsRow_lit (W.alloc (.cells #[.func (.yield l) #[] #[]] 39)) (base := W.heap.size) (e := 9) (size := 1) #[] 0 (by simp) (by unfold maxLen; omega) rfl
    rw [World.size_alloc] at h1
    rw [← hW0]
    exact ⟨h1.alloc _, rfl⟩
  have bf0 : Boxed W0 bf 9 (.string f) := (b0.block bf hH.1.lt).trans hH.1
  have bs0 : Boxed W0 bs 9 (.string sp) := (b0.block bs hH.2.lt).trans hH.2
  have hcf := bf0.cell
  have hcs := bs0.cell
  gi_wp2
  refine wide_call (meantBy_any f sp _) ?_
  rintro e w' ⟨rfl, rfl⟩
  obtain ⟨w3, hw3⟩ : ∃ w3, (W0.alloc (.cells #[.string f] 9)).alloc (.cells #[.string sp] 9) = w3 := ⟨_, rfl⟩
  have bf3 : Boxed w3 W0.heap.size 9 (.string f) := by rw [← hw3]; exact (Boxed.new W0 _ _).alloc _
  have bs3 : Boxed w3 (W0.heap.size + 1) 9 (.string sp) := by
    rw [← hw3]
    have := Boxed.new (W0.alloc (.cells #[.string f] 9)) 9 (.string sp)
    rw [World.size_alloc] at this
    exact this
  have b3 : Below W0.heap.size W0 w3 := by rw [← hw3]; exact ((Below.refl _ _).alloc (Nat.le_refl _) _).alloc (by simp) _
  have by3 : Boxed w3 W.heap.size 39 (.func (.yield l) #[] #[]) := (b3.block _ by0.lt).trans by0
  have bt3 : Boxed w3 (W.heap.size + 1 + 1) 25 (.slice (some ⟨W.heap.size + 1, 0, none⟩) 0 0) := (b3.block _ bt0.lt).trans bt0
  have ow3 : OwnS w3 W.heap.size 9 (W.heap.size + 1) 0 0 [] := ownS_later ow0 b3
  have hbw : Below W.heap.size W w3 := b0.trans (b3.mono b0.size)
  have HW3 : Hid (w3.heap.size = W0.heap.size + 2) := by show _ = _; rw [← hw3]; simp
  rw [hw3]
  clear hW0 hw3 hcf hcs by0 bt0 ow0
  have HB := hidU b3
  clear b3
  gi_wp2
  refine wpIn_range_sep (gf := 62) rfl enters_meant (meant_seq f sp (W0.heap.size + 1) W0.heap.size hf hs) (fun V hV => ⟨(hV _ (.inl rfl)).trans bs3, (hV _ (.inr rfl)).trans bf3⟩) (fun k hk => by rw [HW3.out]; omega) rfl
    (fun pre => CandI J W.heap.size (W.heap.size + 1 + 1) (candF pre)) (fun c _ Cx V => c = .ret ∧ CandX Jx (candS f sp) Cx V) (fun pre C W W' h hs => CandI.loc hJ _ _ _ _ _ _ h hs) (fun c pre C W W' h hs => ⟨h.1, CandX.loc hJx _ pre _ _ _ h.2 hs⟩)
    (fun k => C k ∨ k = W.heap.size + 1 + 1 ∨ k = W.heap.size + 1) ?apart ?inside ⟨C, _, _, _, rfl, fun h => (by have := hC _ h; omega), fun h => (by have := hC _ h; omega), hJ _ _ _ _ h0 (fun k hk => hbw.block k (hC k hk)), bt3, ow3⟩
    (fun x => { tmps := #[.func (.yield l) #[] #[], .pointer (some ⟨bf, 0, none⟩), .pointer (some ⟨bs, 0, none⟩), .pointer (some ⟨W.heap.size, 0, none⟩), .pointer (some ⟨W.heap.size + 1 + 1, 0, none⟩), .string x, undef, undef, .slice (some ⟨W.heap.size + 1, 0, none⟩) 0 0, .string f, .string sp, .func (.func 62) #[] #[.pointer (some ⟨W0.heap.size + 1, 0, none⟩), .pointer (some ⟨W0.heap.size, 0, none⟩)], .string x, undef, undef, undef, undef, undef, undef, undef, undef, undef, undef, undef, undef, undef, undef, undef, undef, undef, undef, undef], defers := [] }) ?assign ?body ?done ?stop
  case apart =>
    have := HZ.out
    rintro k hk (h | h | h)
    · have := hC k h; omega
    · omega
    · omega
  case inside =>
    have := HZ.out
    have := HW3.out
    rintro k (h | h | h)
    · have := hC k h; omega
    · omega
    · omega
  case assign =>
    intro l m x W K hK
    gi_wp2
    exact hK
  case body =>
    rintro l' m pre x rest Cx V hx hfr ⟨C1, g, n, cap, rfl, h1, h2, hj, hbx, how⟩
    have hxb : x ∈ baseC f sp := by rw [hx]; simp
    have hxz := baseC_size f sp x hxb
    have hon : (candF pre).length ≤ 6003 := by
      have h3 := candF_len pre
      have h4 := baseC_len f sp
      rw [hx] at h4
      simp at h4
      omega
    have hsn : candF (pre ++ [x]) = (pathsC x).foldl addT (candF pre) := by rw [candF_snoc, candB_paths]
    have hpre : candF (pre ++ [x]) <+: candS f sp := by
      have h3 := candF_pre rest (pre ++ [x])
      rw [List.append_assoc, List.singleton_append, ← hx, cand_base] at h3
      exact h3
    have HP := hidU hpre
    have HSN := hidU hsn
    have HCI : Hid (CandI J W.heap.size (W.heap.size + 1 + 1) (candF pre) (fun k => C1 k ∨ k = W.heap.size + 1 + 1 ∨ k = g) V) := ⟨C1, g, n, cap, rfl, h1, h2, hj, hbx, how⟩
    have HFR := hidU hfr
    generalize hCx : (fun k => C1 k ∨ k = W.heap.size + 1 + 1 ∨ k = g) = Cx at HCI HFR
    clear hCx h1 h2 hj hbx how hx hxb hsn hpre hfr
    obtain ⟨all, hall⟩ : ∃ all, candF (pre ++ [x]) = all := ⟨_, rfl⟩
    rw [hall] at HP HSN
    have HALL := hidU hall
    clear hall
    generalize candF pre = out0 at HSN HCI hon
    gi_wp2
    refine wide_callR (pathsFor_any x _ (by omega)) ?_
    rintro e V1 ⟨a, np, capp, rfl, ho, hb1⟩
    have hnp : np ≤ 3 := by rw [ho.1]; exact pathsC_len x
    have HO := hidU ho
    have HB1 := hidU hb1
    have HC1 : Hid (CandI J W.heap.size (W.heap.size + 1 + 1) out0 Cx V1) := CandI.loc hJ _ _ _ _ _ _ HCI.out (fun k hk => hb1.block k (HFR.out.lt k hk))
    generalize pathsC x = ps at HSN HO
    clear ho hb1 HCI
    gi_wp2
    gi_loopw [16] (fun i wr => ∃ (k : Nat) (Cy : Nat → Prop), k ≤ np ∧ i = .int .i64 k ∧ CandI J W.heap.size (W.heap.size + 1 + 1) ((ps.take k).foldl addT out0) Cy wr ∧ Fr Cx V1 Cy wr) (fun i _ => (np - intOf i).toNat)
    case atStart => exact ⟨0, Cx, Nat.zero_le _, rfl, HC1.out, Fr.refl (fun k hk => Nat.lt_of_lt_of_le (HFR.out.lt k hk) HB1.out.size)⟩
    case round =>
      obtain ⟨k, Cy, hk, rfl, hci, hfy⟩ := hrel
      by_cases hlt : k < np
      · have hlti : (k : Int) < (np : Int) := by omega
        obtain ⟨gp, rfl, hop⟩ := HO.out.2 (by omega)
        have hgpx : ¬ Cx gp := fun h => by have := HFR.out.lt gp h; have := (ownS_blk hop).1; omega
        have hcell := ownS_cell (ownS_keep hop (hfy.same gp (ownS_blk hop).2 hgpx)) k hlt
        have hget : ps[k]? = some (ps.getD k { data := #[] }) := by
          rw [List.getD_eq_getElem?_getD, List.getElem?_eq_getElem (by rw [← HO.out.1]; exact hlt)]
          rfl
        generalize ps.getD k { data := #[] } = p at hcell hget
        have htk : (ps.take (k + 1)).foldl addT out0 = addT ((ps.take k).foldl addT out0) p := fold_take addT out0 hget
        have hpk : (ps.take (k + 1)).foldl addT out0 <+: candS f sp := by
          refine List.IsPrefix.trans ?_ HP.out
          rw [HSN.out]
          conv => rhs; rw [← List.take_append_drop (k + 1) ps, List.foldl_append]
          exact foldT_pre _ _
        have hlo : ((ps.take k).foldl addT out0).length ≤ 6006 := by
          have h3 := foldT_len (ps.take k) out0
          rw [List.length_take] at h3
          omega
        obtain ⟨k1, hk1⟩ : ∃ k1, k1 = k + 1 := ⟨_, rfl⟩
        have ek : (k : Int) + 1 = (k1 : Int) := by omega
        have HK1 := hidU hk1
        have HK : Hid (k < np) := hlt
        have HTK := hidU htk
        have HPK := hidU hpk
        clear hget htk hpk hop hlt hk1
        obtain ⟨C1, g, n, cap, hCy, h1, h2, hj, hbx, how⟩ := hci
        have HCY := hidU hCy
        generalize (ps.take k).foldl addT out0 = out at hj how HTK hlo
        have hcb := hbx.cell
        have HFW : Hid (Fr (fun k => C k ∨ k = W.heap.size + 1 + 1 ∨ k = W.heap.size + 1) w3 Cy wr) := HFR.out.trans ((Fr.below HFR.out.lt HB1.out).trans hfy)
        have byW : Boxed wr W.heap.size 39 (.func (.yield l) #[] #[]) := (HFW.out.same _ by3.lt (by
          rintro (h | h | h)
          · have := hC _ h; omega
          · omega
          · omega)).trans by3
        have hcy := byW.cell
        have hn6 : n ≤ 6006 := by rw [ownS_len how]; exact hlo
        have HFI : Hid (Fr C W C1 wr) := Fr.inner hbw (by
          rintro k (h | h | h)
          · exact .inl h
          · right; omega
          · right; omega) HFW.out (fun k hk => by rw [hCy]; exact .inl hk)
        clear hCy
        gi_wp2
        refine wide_callR (containsS_any W.heap.size g n cap out p _ how (by omega)) ?_
        rintro e w' ⟨rfl, rfl⟩
        cases hin : inT out p with
        | true =>
          gi_wp2
          go_roundw
          case rel =>
            refine ⟨k1, Cy, ?_, rfl, ⟨C1, g, n, cap, HCY.out, h1, h2, ?_, hbx, ?_⟩, hfy⟩
            · have := HK.out; have := HK1.out; omega
            · rw [HK1.out, HTK.out, addT_in hin]; exact hj
            · rw [HK1.out, HTK.out, addT_in hin]; exact how
          case measure =>
            have := HK.out; have := HK1.out
            simp only [intOf]
            omega
        | false =>
          have HTN : Hid ((ps.take (k + 1)).foldl addT out0 = out ++ [p]) := by show _ = _; rw [HTK.out, addT_new hin]
          obtain ⟨rst, hrst⟩ := HPK.out
          rw [HTN.out, List.append_assoc, List.singleton_append] at hrst
          obtain ⟨fn, tm, asg, bd, hy, hR'⟩ := hY (m - 1) out p rst C1 w' hrst.symm HFI.out hj
          have hR := round_in (l' := l') hR'
          clear hR' hrst HTK
          gi_wp2
          refine ⟨wide_ok, hR.mono ?_⟩
          rintro e W4 ⟨C2, hf2, hj2⟩
          obtain ⟨bv, rfl, hj3⟩ := yield_or hj2
          have htl := hbx.lt
          have hgl := (ownS_blk how).2
          have bx4 : Boxed W4 (W.heap.size + 1 + 1) 25 (.slice (some ⟨g, 0, none⟩) n cap) := (hf2.same _ htl h1).trans hbx
          have ow4 : OwnS W4 W.heap.size 9 g n cap out := ownS_keep how (hf2.same g hgl h2)
          have h14 : ¬ C2 (W.heap.size + 1 + 1) := fun h => (hf2.sub _ h).elim h1 (fun h => by omega)
          have h24 : ¬ C2 g := fun h => (hf2.sub _ h).elim h2 (fun h => by omega)
          have HF4 : Hid (Fr Cx V1 (fun k => C2 k ∨ k = W.heap.size + 1 + 1 ∨ k = g) W4) := by
            refine hfy.trans ?_
            rw [HCY.out]
            exact hf2.more (by
              rintro k (h | h)
              · rw [h]; exact htl
              · rw [h]; exact hgl)
          rcases hj3 with ⟨rfl, hj3⟩ | ⟨rfl, hj3⟩
          · have hc4 := bx4.cell
            have hrow := ow4.1
            have hsz4 : W.heap.size ≤ W4.heap.size := Nat.le_trans HFI.out.size hf2.size
            gi_wp2_with (gi_at_builtin; refine wpListIn_append_at _ rfl _ _ 25 rfl W.heap.size 9 i0 (.string { data := #[] }) 1 16 Try.underlying25 hi hz0 hz1 hz2 rfl (by decide) _ _ _ rfl (hrow.alloc _) ⟨W4.heap.size, 0, none⟩ 1 1 [.string p] rfl rfl (cell_one_new _ _ _) (by simp [Value.oneCell']) (by unfold maxLen; omega) (by omega) (by simp; omega) ?_; intro v' w1 hown' hgrow hat; obtain ⟨g', cap', rfl⟩ := ownsRow_succ hown'; obtain ⟨hv1, hv2, hr2, hf5⟩ := boxed_grown bx4 (by decide) hrow hsz4 (by omega) hown' hgrow hat; have hc1 := hv1.cell; have hf1 := hv1.frozen)
            have hat' : g' = g ∨ W4.heap.size ≤ g' := by
              rcases hat with h | h
              · exact .inl ((own_iff g n cap g').2 (h.symm.trans rfl))
              · right
                have := (own_iff g' (n + 1) cap' _).2 h
                rw [World.size_alloc] at this
                omega
            have hf6 := (hf5.congr (fun k => or_congr Iff.rfl (own_iff g n cap k).symm) (fun k => or_congr Iff.rfl (own_iff g' (n + 1) cap' k).symm)).more (R := C2) hf2.lt
            go_roundw
            case rel =>
              refine ⟨k1, (fun k => C2 k ∨ k = W.heap.size + 1 + 1 ∨ k = g'), ?_, rfl, ⟨C2, g', n + 1, cap', rfl, h14, ?_, ?_, hv2, ?_⟩, HF4.out.trans (hf6.congr (fun k => or_comm) (fun k => or_comm))⟩
              · have := HK.out; have := HK1.out; omega
              · intro h
                rcases hat' with e | e
                · exact h24 (e ▸ h)
                · have := hf2.lt g' h; omega
              · rw [HK1.out, HTN.out]
                refine hJ _ _ _ _ hj3 (fun k hk => hf5.same k (hf2.lt k hk) ?_)
                rintro (h | h)
                · exact h14 (h ▸ hk)
                · exact h24 ((own_iff g n cap k).2 h ▸ hk)
              · rw [HK1.out, HTN.out]
                exact ⟨by rw [List.map_append]; exact hr2, by rw [List.length_append, ← ownS_len ow4]; rfl⟩
            case measure =>
              have := HK.out; have := HK1.out
              simp only [intOf]
              omega
          · gi_wp2
            exact ⟨_, (Fr.below HFR.out.lt HB1.out).trans HF4.out, rfl, C2, out ++ [p], fun k hk => .inl hk, by rw [← HTN.out]; exact HPK.out, hj3⟩
      · obtain rfl : k = np := by omega
        gi_wp2
        refine ⟨Cy, (Fr.below HFR.out.lt HB1.out).trans hfy, ?_⟩
        rw [HO.out.1, List.take_length, ← HSN.out, ← HALL.out] at hci
        exact hci
  case done =>
    rintro D Cx V hD hfr hnD ⟨C1, g, n, cap, rfl, h1, h2, hj, hbx, how⟩ hK
    gi_wp2
    refine ⟨by simp, .inl ⟨_, _, rfl, run_takeDeferred hK, ?_⟩⟩
    refine ⟨_, results_none rfl _ _ _, ⟨_, rfl⟩, C1, (Fr.inner hbw ?_ hfr (fun k hk => .inl hk)).put (Nat.le_trans hbw.size hD) _, .inl ?_⟩
    · rintro k (h | h | h)
      · exact .inl h
      · right; omega
      · right; omega
    · rw [← cand_base]
      exact hJ _ _ _ _ hj (put_same (fun h => hnD (.inl h)))
  case stop =>
    rintro D c pre Cx V hD hpre hfr hnD ⟨rfl, C1, q, h1, h2, hj⟩ hK
    gi_wp2
    refine ⟨by simp, .inl ⟨_, _, rfl, run_takeDeferred hK, ?_⟩⟩
    refine ⟨_, results_none rfl _ _ _, ⟨_, rfl⟩, C1, (Fr.inner hbw ?_ hfr h1).put (Nat.le_trans hbw.size hD) _, .inr ⟨q, h2, hJx _ _ _ _ hj (put_same (fun h => hnD (h1 _ h)))⟩⟩
    rintro k (h | h | h)
    · exact .inl h
    · right; omega
    · right; omega
set_option maxHeartbeats 1600000 in
theorem candidates_any (f sp : ByteArray) (w : World) : Calls Try.prog 35 #[.string f, .string sp] w fun e w' => e = .returned (.func (.func 51) #[] #[.pointer (some ⟨w.heap.size, 0, none⟩), .pointer (some ⟨w.heap.size + 1, 0, none⟩)]) ∧ w' = (w.alloc (.cells #[.string f] 9)).alloc (.cells #[.string sp] 9) := by
  go_enter Try.func35, Try.ntmps35
  go_wp2
  go_ret
  exact ⟨rfl, rfl⟩
theorem enters_cand : ∀ args w, (callFunc 51 args).run Try.prog w = .ok (.enter 51 args) w := enters_of Try.func51 (by kernel_rfl) rfl
theorem boxed_two (w : World) (t : TypeId) (u v : Value) : Boxed ((w.alloc (.cells #[u] t)).alloc (.cells #[v] t)) w.heap.size t u ∧ Boxed ((w.alloc (.cells #[u] t)).alloc (.cells #[v] t)) (w.heap.size + 1) t v := by
  refine ⟨(Boxed.new w _ _).alloc _, ?_⟩
  have := Boxed.new (w.alloc (.cells #[u] t)) t v
  rw [World.size_alloc] at this
  exact this
set_option maxHeartbeats 1600000 in
theorem cand_impl (f sp : ByteArray) (w : World) (hf : f.size ≤ 1048576) (hs : sp.size ≤ 1048576) :
    Calls Try.prog 16 #[.string f, .string sp] w fun e w' => ∃ a n cap, e = .returned (.slice a n cap) ∧ OutS w' w.heap.size a n cap (candS f sp) ∧ Below w.heap.size w w' := by
  have hlen : (candS f sp).length ≤ 100000 := by
    rw [← cand_base]
    have h1 := candF_len (baseC f sp)
    have h2 := baseC_len f sp
    omega
  go_enter Try.func16, Try.ntmps16
  go_wp2_with fail
  refine (candidates_any f sp _).mono ?_
  rintro e w1 ⟨rfl, rfl⟩
  obtain ⟨bx1, bx2⟩ := boxed_two w 9 (.string f) (.string sp)
  go_wp2_with fail
  refine (collect_any 51 _ (candS f sp) _ _ (cand_seq f sp w.heap.size (w.heap.size + 1) hf hs) enters_cand _ (fun W hW => ⟨(hW _ (.inl rfl)).trans bx1, (hW _ (.inr rfl)).trans bx2⟩) (fun k hk => by simp; omega) hlen).mono ?_
  rintro e w2 ⟨a, n, cap, rfl, ho, hb⟩
  go_wp2
  go_ret
  exact ⟨a, n, cap, rfl, OutS.low ho (by simp; omega), (((Below.refl _ w).alloc (Nat.le_refl _) _).alloc (by simp) _).trans (hb.mono (by simp; omega))⟩
end Go.Proofs.Ytemfbibeoibpeaa
namespace Go.Proofs.Ytemfbibeoibpeaa
open Go.RowKit Go.PlainAid Go.Sort

theorem undef_yields : yielded.match_1 (motive := fun _ => Option Bool) (some undef) (fun b => some b) (fun _ => none) = none := rfl

theorem isFilePath_any (p : ByteArray) (w : World) (hs : p.size ≤ 9223372036854775807) :
    Calls Try.prog 77 #[.string p] w fun e w' => e = .returned (.bool (fpB p)) ∧ Below w.heap.size w w' := by
  by_cases hp : pathB p = true
  · by_cases h1 : (p.toList == [47]) = true
    · have HV : Hid (fpB p = false) := fpB_root h1
      go_enter Try.func77, Try.ntmps77
      go_wp2_with fail
      refine (isPath_any _ _ hs).mono ?_
      rintro e w' ⟨rfl, rfl⟩
      go_wp2
      go_ret
      exact ⟨ret_bool HV.out.symm, Below.refl _ _⟩
    · have h1' : (p.toList == [47]) = false := by simpa using h1
      have HV : Hid (fpB p = ((cleanS p).toList == p.toList)) := by show fpB p = _; rw [fpB, hp, h1']; rfl
      clear h1
      go_enter Try.func77, Try.ntmps77
      go_wp2_with fail
      refine (isPath_any _ _ hs).mono ?_
      rintro e w' ⟨rfl, rfl⟩
      go_wp2_with fail
      refine (clean_impl _ _ hs).mono ?_
      rintro e w1 ⟨rfl, hb1⟩
      go_wp2
      go_ret
      exact ⟨ret_bool HV.out.symm, hb1⟩
  · have hp' : pathB p = false := by simpa using hp
    have HV : Hid (fpB p = false) := fpB_no_path hp'
    clear hp
    go_enter Try.func77, Try.ntmps77
    go_wp2_with fail
    refine (isPath_any _ _ hs).mono ?_
    rintro e w' ⟨rfl, rfl⟩
    go_wp2
    go_ret
    exact ⟨ret_bool HV.out.symm, Below.refl _ _⟩

theorem isFile_any (p t : ByteArray) (w : World) (hs : p.size ≤ 9223372036854775807) (_ : t.size ≤ 9223372036854775807) :
    Calls Try.prog 66 #[.agg #[.string p, .string t]] w fun e w' => e = .returned (.bool (fileB p t)) ∧ Below w.heap.size w w' := by
  cases hp : fpB p with
  | true =>
    have HV : Hid (fileB p t = decide ((t.size : Int) ≤ 1500)) := by show fileB p t = _; rw [fileB, hp]; rfl
    go_enter Try.func66, Try.ntmps66
    go_wp2_with fail
    refine (isFilePath_any _ _ hs).mono ?_
    rintro e w1 ⟨rfl, hb1⟩
    obtain ⟨_, c1, hb2⟩ := box_cells hb1
    clear hb1
    go_wp2
    go_ret
    exact ⟨ret_bool HV.out.symm, hb2⟩
  | false =>
    have HV : Hid (fileB p t = false) := fileB_path hp
    go_enter Try.func66, Try.ntmps66
    go_wp2_with fail
    refine (isFilePath_any _ _ hs).mono ?_
    rintro e w1 ⟨rfl, hb1⟩
    obtain ⟨_, c1, hb2⟩ := box_cells hb1
    clear hb1
    go_wp2
    go_ret
    exact ⟨ret_bool HV.out.symm, hb2⟩

theorem box_new {w0 wr W : World} {p t : ByteArray} {e : TypeId} (hb : Below w0.heap.size w0 wr) (hW : W = wr.alloc (.cells #[.string p, .string t] e)) :
    W.cell? ⟨wr.heap.size, 0, none⟩ = some (.string p) ∧ W.cell? ⟨wr.heap.size, 1, none⟩ = some (.string t) ∧ Below w0.heap.size w0 W := by
  subst hW
  refine ⟨?_, ?_, hb.alloc hb.size _⟩
  · rw [World.cell?_alloc_new]; rfl
  · rw [World.cell?_alloc_new]; rfl

set_option maxRecDepth 100000 in
set_option maxHeartbeats 1600000 in
theorem filesOk_implA (a : Option Addr) (g len cap : Nat) (Pt Tx : Nat → ByteArray) (w : World) (hf : FilesAt w a g 0 len Pt Tx) (hl : len ≤ 1048576) (hp : ∀ j, j < len → (Pt j).size ≤ 1048576) (ht : ∀ j, j < len → (Tx j).size ≤ 1048576) :
    Calls Try.prog 55 #[.slice a len cap] w fun e w' => e = .returned (.bool (filesB len Pt Tx)) ∧ Below w.heap.size w w' := by
  by_cases hl8 : len ≤ 8
  · go_enter Try.func55, Try.ntmps55
    go_wp2
    go_loopw [10, 3, 4] (fun i _ _ wr => ∃ k : Nat, k ≤ len ∧ i = .int .i64 k ∧ FilesTo k Pt Tx ∧ Below w.heap.size w wr) (fun i _ _ _ => (len - intOf i).toNat)
    case atStart => exact ⟨0, by omega, rfl, fun j hj => absurd hj (Nat.not_lt_zero j), Below.refl _ _⟩
    case round =>
      obtain ⟨k, hk, rfl, hok, hb⟩ := hrel
      have HOK : Hid (FilesTo k Pt Tx) := hok
      clear hok
      by_cases hlt : k < len
      · obtain rfl := hf.addr (by omega)
        have hf' := hf.later hb
        have c0 := hf'.path k hlt
        have c1 := hf'.text k hlt
        rw [Nat.zero_add] at c0 c1
        have hp1 := hp k hlt
        have ht1 := ht k hlt
        obtain ⟨W, hW⟩ : ∃ W, W = wr.alloc (.cells #[.string (Pt k), .string (Tx k)] 55) := ⟨_, rfl⟩
        have HW : Hid (W = wr.alloc (.cells #[.string (Pt k), .string (Tx k)] 55)) := hW
        obtain ⟨b0, b1, hbW⟩ := box_new hb hW
        have B0 : Hid (W.cell? ⟨wr.heap.size, 0, none⟩ = some (.string (Pt k))) := b0
        have B1 : Hid (W.cell? ⟨wr.heap.size, 1, none⟩ = some (.string (Tx k))) := b1
        have hfW := hf.later hbW
        have cQ : ∀ d os, Calls Try.prog 66 #[.agg #[.string (Pt k), .string (Tx k)]] (grow (redrawn W d) os) fun e w'' => e = .returned (.bool (fileB (Pt k) (Tx k))) ∧ ∃ p : Regrown, w'' = grow (redrawn W p.d) p.os :=
          fun d os => Calls.regrown_of (isFile_any _ _ _ (by omega) (by omega))
        clear hW b0 b1
        cases hfl : fileB (Pt k) (Tx k) with
        | false =>
          have HN : Hid (¬ FilesP len Pt Tx) := fun h => by have := (h.2 k hlt).1; rw [hfl] at this; cases this
          rw [hfl] at cQ
          go_wp2
          rw [← HW.out]
          have k0 := cell_regrown B0.out
          have k1 := cell_regrown B1.out
          refine wp_region_quiet_below (by kernel_rfl) (by kernel_rfl) ?_
          repeat (go_big_quiet_step (exact cQ _ _))
          refine wpQuiet_nil ?_
          intro _ hw'
          obtain ⟨⟨dq, osq⟩, hw''⟩ := hw'
          subst hw''
          go_wp2
          go_ret
          exact ⟨ret_bool (filesB_no HN.out).symm, hbW.trans ((below_regrown W dq osq).mono hbW.size)⟩
        | true =>
          rw [hfl] at cQ
          by_cases hk0 : k = 0
          · subst hk0
            have HX : Hid (FilesTo (0 + 1) Pt Tx) := filesTo_next HOK.out hfl (fun h => absurd h (Nat.lt_irrefl _))
            go_wp2
            rw [← HW.out]
            have k0 := cell_regrown B0.out
            have k1 := cell_regrown B1.out
            refine wp_region_quiet_below (by kernel_rfl) (by kernel_rfl) ?_
            repeat (go_big_quiet_step (exact cQ _ _))
            refine wpQuiet_nil ?_
            intro _ hw'
            obtain ⟨⟨dq, osq⟩, hw''⟩ := hw'
            subst hw''
            have hbE := hbW.trans ((below_regrown W dq osq).mono hbW.size)
            go_wp2
            go_roundw
            case rel => exact ⟨0 + 1, by omega, by go_num, HX.out, hbE⟩
            case measure => simp [intOf]; omega
          · obtain ⟨m, rfl⟩ : ∃ m, k = m + 1 := ⟨k - 1, by omega⟩
            have ez : ((m + 1 : Nat) : Int) = (m : Int) + 1 := by omega
            have eq1 : decide ((0 : Int) < ((m + 1 : Nat) : Int)) = true := decide_eq_true (by omega)
            have p0 := hfW.path m (by omega)
            rw [Nat.zero_add] at p0
            have P0 : Hid (W.cell? ⟨g, m * 2, none⟩ = some (.string (Pt m))) := p0
            clear p0
            cases hls : Op.bytesLess (Pt m).toList (Pt (m + 1)).toList with
            | true =>
              have HX : Hid (FilesTo (m + 1 + 1) Pt Tx) := filesTo_next HOK.out hfl (fun _ => hls)
              go_wp2
              rw [← HW.out]
              have k0 := cell_regrown B0.out
              have k1 := cell_regrown B1.out
              have k2 := cell_regrown P0.out
              refine wp_region_quiet_below (by kernel_rfl) (by kernel_rfl) ?_
              repeat (go_big_quiet_step (exact cQ _ _))
              refine wpQuiet_nil ?_
              intro _ hw'
              obtain ⟨⟨dq, osq⟩, hw''⟩ := hw'
              subst hw''
              have hbE := hbW.trans ((below_regrown W dq osq).mono hbW.size)
              go_wp2
              go_roundw
              case rel => exact ⟨m + 1 + 1, by omega, by go_num, HX.out, hbE⟩
              case measure => simp [intOf]; omega
            | false =>
              have HN : Hid (¬ FilesP len Pt Tx) := fun h => by have := (h.2 (m + 1) hlt).2 (by omega); rw [Nat.add_sub_cancel, hls] at this; cases this
              go_wp2
              rw [← HW.out]
              have k0 := cell_regrown B0.out
              have k1 := cell_regrown B1.out
              have k2 := cell_regrown P0.out
              refine wp_region_quiet_below (by kernel_rfl) (by kernel_rfl) ?_
              repeat (go_big_quiet_step (exact cQ _ _))
              refine wpQuiet_nil ?_
              intro _ hw'
              obtain ⟨⟨dq, osq⟩, hw''⟩ := hw'
              subst hw''
              have hbE := hbW.trans ((below_regrown W dq osq).mono hbW.size)
              go_wp2
              go_ret
              exact ⟨ret_bool (filesB_no HN.out).symm, hbE⟩
      · have HY : Hid (FilesP len Pt Tx) := ⟨hl8, fun j hj => HOK.out j (by omega)⟩
        go_wp2
        go_ret
        exact ⟨ret_bool (filesB_yes HY.out).symm, hb⟩
  · have HN : Hid (¬ FilesP len Pt Tx) := fun h => hl8 h.1
    go_enter Try.func55, Try.ntmps55
    go_wp2
    go_ret
    exact ⟨ret_bool (filesB_no HN.out).symm, Below.refl _ _⟩

theorem filesOk_impl (g len : Nat) (Pt Tx : Nat → ByteArray) (w : World) (hf : FilesAt w (some ⟨g, 0, none⟩) g 0 len Pt Tx) (hl : len ≤ 1048576) (hp : ∀ j, j < len → (Pt j).size ≤ 1048576) (ht : ∀ j, j < len → (Tx j).size ≤ 1048576) :
    Calls Try.prog 55 #[.slice (some ⟨g, 0, none⟩) len len] w fun e w' => e = .returned (.bool (filesB len Pt Tx)) ∧ Below w.heap.size w w' := filesOk_implA _ g len len Pt Tx w hf hl hp ht
theorem clone_any (s : ByteArray) (w : World) (h : s.size ≤ 281474976710656) :
    Calls Try.prog 56 #[.string s] w fun e w' => e = .returned (.string s) ∧ Below w.heap.size w w' := by
  go_enter Try.func56, Try.ntmps56
  go_wp2_with fail
  refine (Try.stringslite_Clone _ _ h).mono ?_
  rintro e w1 ⟨rfl, hb1⟩
  go_wp2
  go_ret
  exact ⟨rfl, hb1⟩

set_option maxRecDepth 100000 in
set_option maxHeartbeats 1600000 in
theorem find_implC (g len cap : Nat) (Pt Tx : Nat → ByteArray) (q : ByteArray) (w : World) (hf : FilesAt w (some ⟨g, 0, none⟩) g 0 len Pt Tx) (hl : len ≤ 1048576) (hp : ∀ j, j < len → (Pt j).size ≤ 1048576) (ht : ∀ j, j < len → (Tx j).size ≤ 1048576) :
    Calls Try.prog 36 #[.slice (some ⟨g, 0, none⟩) len cap, .string q] w fun e w' => e = .returned (.tuple #[.string (findS len Pt Tx q).1, .bool (findS len Pt Tx q).2]) ∧ Below w.heap.size w w' := by
  cases hfb : filesB len Pt Tx with
  | false =>
    have HV : Hid (findS len Pt Tx q = ({ data := #[] }, false)) := findS_bad hfb
    go_enter Try.func36, Try.ntmps36
    go_wp2_with fail
    refine (filesOk_implA _ g len cap Pt Tx _ hf hl hp ht).mono ?_
    rintro e w1 ⟨rfl, hb1⟩
    go_wp2
    go_ret2
    exact ⟨ret_str_bool (by rw [HV.out]) (by rw [HV.out]), hb1⟩
  | true =>
    go_enter Try.func36, Try.ntmps36
    go_wp2_with fail
    refine (filesOk_implA _ g len cap Pt Tx _ hf hl hp ht).mono ?_
    rintro e w1 ⟨rfl, hb1⟩
    go_wp2
    go_loopw [13, 7] (fun i _ wr => ∃ k : Nat, k ≤ len ∧ i = .int .i64 k ∧ (∀ j, j < k → Pt j ≠ q) ∧ Below w.heap.size w wr) (fun i _ _ => (len - intOf i).toNat)
    case atStart => exact ⟨0, by omega, rfl, fun j hj => absurd hj (Nat.not_lt_zero j), hb1⟩
    case round =>
      obtain ⟨k, hk, rfl, hno, hb⟩ := hrel
      have HNO : Hid (∀ j, j < k → Pt j ≠ q) := hno
      clear hno
      by_cases hlt : k < len
      · have hf' := hf.later hb
        have c0 := hf'.path k hlt
        have c1 := hf'.text k hlt
        rw [Nat.zero_add] at c0 c1
        have ht1 := ht k hlt
        by_cases hpq : Pt k = q
        · have hq : ((Pt k).toList == q.toList) = true := (toList_eq_iff _ _).2 hpq
          have HV : Hid (findS len Pt Tx q = (Tx k, true)) := findS_at hfb hlt hpq HNO.out
          clear hpq
          go_wp2_with fail
          refine (clone_any _ _ (by omega)).mono ?_
          rintro e w2 ⟨rfl, hb2⟩
          obtain ⟨_, _, hb3⟩ := box_cells hb2
          go_wp2
          go_ret2
          exact ⟨ret_str_bool (by rw [HV.out]) (by rw [HV.out]), hb.trans (hb3.mono hb.size)⟩
        · have hq : ((Pt k).toList == q.toList) = false := toList_ne hpq
          have HX : Hid (∀ j, j < k + 1 → Pt j ≠ q) := fun j hj => by
            by_cases e : j = k
            · rw [e]; exact hpq
            · exact HNO.out j (by omega)
          clear hpq
          go_wp2
          go_roundw
          case rel => exact ⟨k + 1, by omega, by go_num, HX.out, hb.alloc hb.size _⟩
          case measure => simp [intOf]; omega
      · have HV : Hid (findS len Pt Tx q = ({ data := #[] }, false)) := findS_none (fun j hj => HNO.out j (by omega))
        go_wp2
        go_ret2
        exact ⟨ret_str_bool (by rw [HV.out]) (by rw [HV.out]), hb⟩
theorem find_impl (g len : Nat) (Pt Tx : Nat → ByteArray) (q : ByteArray) (w : World) (hf : FilesAt w (some ⟨g, 0, none⟩) g 0 len Pt Tx) (hl : len ≤ 1048576) (hp : ∀ j, j < len → (Pt j).size ≤ 1048576) (ht : ∀ j, j < len → (Tx j).size ≤ 1048576) :
    Calls Try.prog 36 #[.slice (some ⟨g, 0, none⟩) len len, .string q] w fun e w' => e = .returned (.tuple #[.string (findS len Pt Tx q).1, .bool (findS len Pt Tx q).2]) ∧ Below w.heap.size w w' := find_implC g len len Pt Tx q w hf hl hp ht
end Go.Proofs.Ytemfbibeoibpeaa
