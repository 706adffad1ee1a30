/-
  laws.FnFiles returns true where what impl's functions of chapter 12 answer is what it should: the walk.
-/
import Derived.Test.YtdbpknmoacjodaaCfDrawReadToSameFiles
import Derived.Test.YtdbpknmoacjodaaCfNeqFile
import Derived.Test.YtdbpknmoacjodaaCfLawMarkPToLawStrP
import Derived.Deep.DeepCutAuto
namespace Go.Proofs.Ytdbpknmoacjodaa
open Go.RowKit Go.PlainAid Go.Sort

structure ImgC : Prop where
  shw : ∀ (a : Option Addr) (b len cap : Nat) (Pt Tx : Nat → ByteArray) (w : World), FilesAt w a b 0 len Pt Tx → len ≤ 1048576 → (∀ j, j < len → (Pt j).size ≤ 1048576) → (∀ j, j < len → (Tx j).size ≤ 1048576) →
    Calls Try.prog 30 #[.slice a len cap] w fun e w' => e = .returned (.string (showS len Pt Tx)) ∧ Below w.heap.size w w'
  rd : ∀ (s : ByteArray) (w : World), s.size ≤ 1048576 →
    Calls Try.prog 29 #[.string s] w fun e w' => ∃ a n cap, e = .returned (.tuple #[.slice a n cap, .bool (readS s).2]) ∧ OutF w' w.heap.size a n cap (readS s).1 ∧ Below w.heap.size w w'
  pt : ∀ (g len cap : Nat) (Pt Tx : Nat → ByteArray) (x : Fl) (w : World), FilesAt w (some ⟨g, 0, none⟩) g 0 len Pt Tx → len ≤ cap → len ≤ 1048576 → (∀ j, j < len → (Pt j).size ≤ 1048576) → (∀ j, j < len → (Tx j).size ≤ 1048576) → x.1.size ≤ 1048576 → x.2.size ≤ 1048576 →
    Calls Try.prog 21 #[.slice (some ⟨g, 0, none⟩) len cap, .agg #[.string x.1, .string x.2]] w fun e w' => ∃ a n c, e = .returned (.tuple #[.slice a n c, .bool (putS len Pt Tx x).2]) ∧ OutF w' w.heap.size a n c (putS len Pt Tx x).1 ∧ Below w.heap.size w w'
  fnd : ∀ (g len cap : Nat) (Pt Tx : Nat → ByteArray) (q : ByteArray) (w : World), FilesAt w (some ⟨g, 0, none⟩) g 0 len Pt Tx → len ≤ 1048576 → (∀ j, j < len → (Pt j).size ≤ 1048576) → (∀ j, j < len → (Tx j).size ≤ 1048576) → q.size ≤ 1048576 →
    Calls Try.prog 36 #[.slice (some ⟨g, 0, none⟩) len cap, .string q] w fun e w' => e = .returned (.tuple #[.string (findS len Pt Tx q).1, .bool (findS len Pt Tx q).2]) ∧ Below w.heap.size w w'
  drp : ∀ (g len cap : Nat) (Pt Tx : Nat → ByteArray) (q : ByteArray) (w : World), FilesAt w (some ⟨g, 0, none⟩) g 0 len Pt Tx → len ≤ 1048576 → (∀ j, j < len → (Pt j).size ≤ 1048576) → (∀ j, j < len → (Tx j).size ≤ 1048576) → q.size ≤ 1048576 →
    Calls Try.prog 26 #[.slice (some ⟨g, 0, none⟩) len cap, .string q] w fun e w' => ∃ a n c, e = .returned (.tuple #[.slice a n c, .bool (dropS len Pt Tx q).2]) ∧ OutF w' w.heap.size a n c (dropS len Pt Tx q).1 ∧ Below w.heap.size w w'
  chg : ∀ (g1 l1 c1 : Nat) (P1 T1 : Nat → ByteArray) (g2 l2 c2 : Nat) (P2 T2 : Nat → ByteArray) (w : World), FilesAt w (some ⟨g1, 0, none⟩) g1 0 l1 P1 T1 → FilesAt w (some ⟨g2, 0, none⟩) g2 0 l2 P2 T2 → l1 ≤ 1048576 → l2 ≤ 1048576 → (∀ j, j < l1 → (P1 j).size ≤ 1048576) → (∀ j, j < l1 → (T1 j).size ≤ 1048576) → (∀ j, j < l2 → (P2 j).size ≤ 1048576) → (∀ j, j < l2 → (T2 j).size ≤ 1048576) →
    Calls Try.prog 38 #[.slice (some ⟨g1, 0, none⟩) l1 c1, .slice (some ⟨g2, 0, none⟩) l2 c2] w fun e w' => ∃ a n c, e = .returned (.slice a n c) ∧ OutS w' w.heap.size a n c (changedS l1 P1 T1 l2 P2 T2) ∧ Below w.heap.size w w'
theorem filesAt_congr {w : World} {a : Option Addr} {b len : Nat} {P T P' T' : Nat → ByteArray} (h : FilesAt w a b 0 len P T) (hk : ∀ j, j < len → P j = P' j ∧ T j = T' j) : FilesAt w a b 0 len P' T' :=
  ⟨h.addr, h.lt, fun j hj => by rw [← (hk j hj).1]; exact h.path j hj, fun j hj => by rw [← (hk j hj).2]; exact h.text j hj⟩
theorem fs_of (fs : List Fl) : flsOf fs.length (ptOf fs) (txOf fs) = fs := by
  apply List.ext_getElem?
  intro j
  rcases Nat.lt_or_ge j fs.length with h | h
  · rw [flsOf_at h, List.getElem?_eq_getElem h, (ptOf_at h).1, (ptOf_at h).2]
  · rw [List.getElem?_eq_none (by rw [flsOf_len]; exact h), List.getElem?_eq_none h]
theorem takeS_le (s : ByteArray) (a : Int) : (takeS s a).1.size ≤ s.size := (takeS_bd s a).2.2
theorem readTo_sizes {s : ByteArray} {F : List Fl} : ∀ (n : Nat) (a : Int) (out : List Fl), (∀ y ∈ out, y.1.size ≤ s.size ∧ y.2.size ≤ s.size) → readTo s n a out = some F → ∀ y ∈ F, y.1.size ≤ s.size ∧ y.2.size ≤ s.size := by
  intro n
  induction n with
  | zero => intro a out h e; rw [readTo] at e; cases e; exact h
  | succ n ih =>
    intro a out h e
    rw [readTo] at e
    split at e
    · cases e
    · refine ih _ _ (fun y hy => ?_) e
      rcases List.mem_append.1 hy with hy | hy
      · exact h y hy
      · rw [List.mem_singleton.1 hy]; exact ⟨takeS_le _ _, takeS_le _ _⟩
theorem readS_all (s : ByteArray) : ∀ y ∈ (readS s).1, y.1.size ≤ s.size ∧ y.2.size ≤ s.size := by
  unfold readS
  split
  · intro y hy; cases hy
  · split
    · intro y hy; cases hy
    · split
      · intro y hy; cases hy
      · next F hF =>
        split
        · exact readTo_sizes _ _ _ (fun y hy => by cases hy) hF
        · intro y hy; cases hy
theorem readS_size (s : ByteArray) (j : Nat) : (ptOf (readS s).1 j).size ≤ s.size ∧ (txOf (readS s).1 j).size ≤ s.size := by
  rcases Nat.lt_or_ge j (readS s).1.length with h | h
  · exact fs_sizes (readS_all s) j h
  · unfold ptOf txOf
    simp only [List.getD]
    rw [List.getElem?_eq_none h]
    exact ⟨Nat.zero_le _, Nat.zero_le _⟩
theorem put_is {fa : List Fl} {x : Fl} (h : filesB fa.length (ptOf fa) (txOf fa) = true) : putS fa.length (ptOf fa) (txOf fa) x = if filesB (putFs fa x).length (ptOf (putFs fa x)) (txOf (putFs fa x)) = true then (putFs fa x, true) else (fa, false) := by
  rw [putS, if_pos h, fs_of]
theorem drop_is {fb : List Fl} {q : ByteArray} (h : filesB fb.length (ptOf fb) (txOf fb) = true) : dropS fb.length (ptOf fb) (txOf fb) q = (dropL fb q, decide ((dropL fb q).length < fb.length)) := by
  rw [dropS, if_pos h, fs_of]
theorem changed_is {fa fb : List Fl} (ha : filesB fa.length (ptOf fa) (txOf fa) = true) (hb : filesB fb.length (ptOf fb) (txOf fb) = true) : changedS fa.length (ptOf fa) (txOf fa) fb.length (ptOf fb) (txOf fb) = changedF fa fb := by
  rw [changedS, ha, hb, fs_of, fs_of]
  rfl
theorem put_sizes {fa : List Fl} {x : Fl} {N M : Nat} (h : ∀ y ∈ fa, y.1.size ≤ N ∧ y.2.size ≤ M) (hx : x.1.size ≤ N ∧ x.2.size ≤ M) : ∀ y ∈ putFs fa x, y.1.size ≤ N ∧ y.2.size ≤ M := by
  have key : ∀ (l : List Fl) (st : Bool × List Fl), (∀ y ∈ l, y.1.size ≤ N ∧ y.2.size ≤ M) → (∀ y ∈ st.2, y.1.size ≤ N ∧ y.2.size ≤ M) → ∀ y ∈ (l.foldl (putStep x) st).2, y.1.size ≤ N ∧ y.2.size ≤ M := by
    intro l
    induction l with
    | nil => intro st _ h2; exact h2
    | cons z l ih =>
      intro st h1 h2
      rw [List.foldl_cons]
      refine ih _ (fun y hy => h1 y (by simp [hy])) ?_
      have hz := h1 z (by simp)
      unfold putStep
      intro y hy
      split at hy
      · split at hy
        · simp only [List.mem_append, List.mem_singleton] at hy
          rcases hy with hy | rfl
          · exact h2 y hy
          · exact hx
        · exact h2 y hy
      · split at hy
        · simp only [List.mem_append, List.mem_singleton] at hy
          rcases hy with (hy | rfl) | rfl
          · exact h2 y hy
          · exact hx
          · exact hz
        · simp only [List.mem_append, List.mem_singleton] at hy
          rcases hy with hy | rfl
          · exact h2 y hy
          · exact hz
  intro y hy
  unfold putFs at hy
  have k := key fa (false, []) h (fun y hy => by cases hy)
  split at hy
  · exact k y hy
  · simp only [List.mem_append, List.mem_singleton] at hy
    rcases hy with hy | rfl
    · exact k y hy
    · exact hx
set_option maxRecDepth 100000 in
set_option maxHeartbeats 3200000 in
theorem fnFiles_any (C : ImgC) (S : Src) (hS : S.ok) (w : World) (hc : CodeW S w) (hl : S.lim ≤ w.heap.size) (hcap : S.len ≤ S.cap) :
    Calls Try.prog 7 #[.slice S.a S.len S.cap] w fun e w' => e = .returned (.bool true) ∧ Below w.heap.size w w' := by
  have hlen : S.len ≤ 1048576 := hS.1
  have hbig : decide ((1048576 : Int) < S.len) = false := by simp; omega
  have HS : Hid (∀ W, Below w.heap.size w W → CodeW S W ∧ S.lim ≤ W.heap.size) := fun W hb => ⟨codeW_below hc hb hl, Nat.le_trans hl hb.size⟩
  have B0 : Hid (Below w.heap.size w w) := Below.refl _ _
  clear hc hl
  go_enter Try.func7, Try.ntmps7
  go_wp2_with fail
  refine (big_any _ _ _ _ (by omega)).mono ?_
  rintro e wx ⟨rfl, hwx⟩
  rw [hwx]
  clear hwx wx
  go_wp2_with fail
  refine (drawShowFiles_some S hS _ (HS.out _ B0.out).1 (HS.out _ B0.out).2).mono ?_
  rintro e w1 ⟨g, n, cap, fs, rfl, own1, hn1, few1, b1⟩
  have B1 := hidU b1
  have F1 := hidU (ownFl_files own1)
  have HL : Hid (n = fs.length) := own1.2
  have HP : Hid (∀ j, j < n → (ptOf fs j).size ≤ 1048576) := fun j hj => by have := (fs_sizes few1 j (by have := HL.out; omega)).1; omega
  have HT : Hid (∀ j, j < n → (txOf fs j).size ≤ 1048576) := fun j hj => by have := (fs_sizes few1 j (by have := HL.out; omega)).2; omega
  clear own1 b1 few1 B0
  go_wp2_with fail
  refine (C.shw _ g n cap (ptOf fs) (txOf fs) _ F1.out (by omega) HP.out HT.out).mono ?_
  rintro e w2 ⟨rfl, b2⟩
  have B2 := hidU (B1.out.trans (b2.mono B1.out.size))
  have F2 := hidU (F1.out.later b2)
  have hsz := show_small n (ptOf fs) (txOf fs)
  clear b2 B1 F1
  go_wp2_with fail
  refine (C.rd (showS n (ptOf fs) (txOf fs)) _ (by omega)).mono ?_
  rintro e w3 ⟨a3, n3, c3, rfl, o3, b3⟩
  have B3 := hidU (B2.out.trans (b3.mono B2.out.size))
  have F3 := hidU (F2.out.later b3)
  have O3 := hidU o3
  clear b3 o3 B2 F2
  generalize hbo : (readS (showS n (ptOf fs) (txOf fs))).2 = bo
  have HBO := hidU hbo
  clear hbo
  go_upto_region 5 with fail
  go_cut [46] (fun s46 wx => s46 = .bool false ∧ Below w.heap.size w wx)
  case first =>
    cases hfb : filesB n (ptOf fs) (txOf fs) with
    | false =>
      have e : bo = false := by rw [← HBO.out, read_none_show hfb]
      subst e
      go_wp2_with fail
      refine (filesOk_specC g n cap _ _ _ F3.out (by omega) HP.out HT.out).mono ?_
      rintro e w4 ⟨rfl, b4⟩
      rw [hfb]
      go_wp2
      go_meet
      case rel => exact ⟨rfl, B3.out.trans (b4.mono B3.out.size)⟩
    | true =>
      have o3 := O3.out
      rw [read_show hfb] at o3
      have e : bo = true := by rw [← HBO.out, read_show hfb]
      subst e
      have hn3 : n3 = n := by rw [o3.1, flsOf_len]
      subst hn3
      obtain ⟨g3, f3⟩ := o3.files
      have F3' := hidU (filesAt_congr f3 fun j hj => ⟨ptOf_fls hj, txOf_fls hj⟩)
      clear f3 o3
      go_wp2_with fail
      refine (filesOk_specC g n3 cap _ _ _ F3.out (by omega) HP.out HT.out).mono ?_
      rintro e w4 ⟨rfl, b4⟩
      rw [hfb]
      go_wp2_with fail
      refine (sameFiles_with neqFl grdFl a3 _ g3 g n3 c3 cap (ptOf fs) (txOf fs) _ (F3'.out.later b4) (F3.out.later b4) (by omega)).mono ?_
      rintro e w5 ⟨rfl, b5⟩
      have B4 := B3.out.trans (b4.mono B3.out.size)
      have B5 := hidU (B4.trans (b5.mono B4.size))
      clear b4 b5 B4
      go_wp2
      go_meet
      case rel => exact ⟨rfl, B5.out⟩
  case rest =>
    obtain ⟨rfl, hb⟩ := hcut
    have B4 := hidU hb
    clear hb B3 F3 O3 HP HT HL hn1 hsz HBO
    go_wp2_with fail
    refine (drawReadFiles_some S hS _ (HS.out _ B4.out).1 (HS.out _ B4.out).2).mono ?_
    rintro e w5 ⟨t, rfl, ht, b5⟩
    have B5 := hidU (B4.out.trans (b5.mono B4.out.size))
    clear b5 B4
    go_wp2_with fail
    refine (C.rd t _ (by omega)).mono ?_
    rintro e w6 ⟨a6, n6, c6, rfl, o6, b6⟩
    have B6 := hidU (B5.out.trans (b6.mono B5.out.size))
    have O6 := hidU o6
    clear b6 o6 B5
    go_wp2_with fail
    refine (readFiles_spec t _ (by omega)).mono ?_
    rintro e w7 ⟨b7, g7, n7, c7, rfl, _⟩
    have B7 := hidU (B6.out.trans (b7.mono B6.out.size))
    have O7 := hidU (O6.out.later b7)
    clear b7 O6 B6
    generalize hbt : (readS t).2 = bq
    have HBT := hidU hbt
    clear hbt
    go_upto_region 10 with fail
    go_cut [70] (fun s70 wx => s70 = .bool false ∧ Below w.heap.size w wx)
    case first =>
      cases bq with
      | false =>
        go_wp2
        go_meet
        case rel => exact ⟨rfl, B7.out⟩
      | true =>
        have hlen7 := readS_len t
        have h16 := readS_size t
        obtain ⟨gy, fy⟩ := O7.out.files
        have hn6 := O7.out.1
        have FY := hidU fy
        have HN := hidU hn6
        clear fy hn6
        go_wp2_with fail
        refine (C.shw a6 gy n6 c6 (ptOf (readS t).1) (txOf (readS t).1) _ FY.out (by have := HN.out; omega) (fun j hj => by have := (h16 j).1; omega) (fun j hj => by have := (h16 j).2; omega)).mono ?_
        rintro e w8 ⟨rfl, b8⟩
        have hsr := show_read HBT.out
        rw [← HN.out] at hsr
        rw [hsr]
        have B8 := hidU (B7.out.trans (b8.mono B7.out.size))
        clear b8 hsr
        go_wp2
        go_meet
        case rel => exact ⟨rfl, B8.out⟩
    case rest =>
      obtain ⟨rfl, hb⟩ := hcut
      have B8 := hidU hb
      clear hb B7 O7 HBT
      go_wp2_with fail
      refine (drawPutFile_some S hS _ (HS.out _ B8.out).1 (HS.out _ B8.out).2 hcap).mono ?_
      rintro e w9 ⟨ga, na, ca, fa, px, tx, rfl, own9, hn9, few9, hp9, ht9, b9⟩
      obtain rfl : na = fa.length := own9.2
      have B9 := hidU (B8.out.trans (b9.mono B8.out.size))
      have FA := hidU (ownFl_files own9)
      have HCA := hidU (ownFl_cap own9)
      have HP : Hid (∀ j, j < fa.length → (ptOf fa j).size ≤ 1048576) := fun j hj => by have := (fs_sizes few9 j hj).1; omega
      have HT : Hid (∀ j, j < fa.length → (txOf fa j).size ≤ 1048576) := fun j hj => by have := (fs_sizes few9 j hj).2; omega
      have HFew := hidU few9
      have X9 : Hid ((w9.alloc (.cells #[.string px, .string tx] 52)).heap[w9.heap.size]? = some (.cells #[.string px, .string tx] 52 (0, 0))) := heap_alloc_new w9 _
      have A9 : Hid (Below w9.heap.size w9 (w9.alloc (.cells #[.string px, .string tx] 52))) := (Below.refl _ _).alloc (Nat.le_refl _) _
      clear own9 few9 b9 B8
      go_wp2_with fail
      refine (C.pt ga fa.length ca (ptOf fa) (txOf fa) (px, tx) _ (FA.out.later A9.out) HCA.out (by omega) HP.out HT.out (by show px.size ≤ _; omega) (by show tx.size ≤ _; omega)).mono ?_
      rintro e w10 ⟨ab, nb, cb, rfl, ob, b10⟩
      have Q10 := hidU (A9.out.trans (b10.mono A9.out.size))
      have B10 := hidU (B9.out.trans (Q10.out.mono B9.out.size))
      have F10 := hidU (FA.out.later Q10.out)
      have X10 := hidU (keep_b X9.out b10)
      have OB := hidU ob
      clear b10 ob B9 FA X9 A9 Q10
      generalize hbp : (putS fa.length (ptOf fa) (txOf fa) (px, tx)).2 = bp
      have HBP := hidU hbp
      clear hbp
      go_wp2_with fail
      refine (filesOk_specC ga fa.length ca _ _ _ F10.out (by omega) HP.out HT.out).mono ?_
      rintro e w11 ⟨rfl, b11⟩
      have B11 := hidU (B10.out.trans (b11.mono B10.out.size))
      have F11 := hidU (F10.out.later b11)
      have X11 := hidU (keep_b X10.out b11)
      have O11 := hidU (OB.out.later b11)
      clear b11 B10 F10 X10 OB
      generalize hfa : filesB fa.length (ptOf fa) (txOf fa) = bf
      have HFA := hidU hfa
      clear hfa
      cases bf with
      | false =>
        have e1 : bp = false := by rw [← HBP.out, putS, HFA.out]; rfl
        have e2 : nb = 0 := by have := O11.out.1; rw [this, putS, HFA.out]; rfl
        subst e1
        subst e2
        go_wp2
        go_ret
        exact ⟨rfl, B11.out⟩
      | true =>
        have hpi := put_is (x := (px, tx)) HFA.out
        cases hfp : filesB (putFs fa (px, tx)).length (ptOf (putFs fa (px, tx))) (txOf (putFs fa (px, tx))) with
        | false =>
          rw [if_neg (by rw [hfp]; decide)] at hpi
          have e1 : bp = false := by rw [← HBP.out, hpi]
          subst e1
          have o11 := O11.out
          rw [hpi] at o11
          have hnb : nb = fa.length := o11.1
          subst hnb
          obtain ⟨gb, fb⟩ := o11.files
          have FB := hidU fb
          clear o11 fb hpi hfp
          go_wp2_with fail
          refine (sameFiles_with neqFl grdFl _ ab ga gb fa.length ca cb (ptOf fa) (txOf fa) _ F11.out FB.out (by omega)).mono ?_
          rintro e w12 ⟨rfl, b12⟩
          have B12 := hidU (B11.out.trans (b12.mono B11.out.size))
          clear b12
          go_wp2
          go_ret
          exact ⟨rfl, B12.out⟩
        | true =>
          rw [if_pos hfp] at hpi
          have e1 : bp = true := by rw [← HBP.out, hpi]
          subst e1
          have o11 := O11.out
          rw [hpi] at o11
          have hpa := put_all (x := (px, tx)) HFA.out hfp
          have HPA := hidU hpa
          have hnb : nb = (putFs fa (px, tx)).length := o11.1
          have hnb0 : 0 < nb := by have := hpa.2.1; omega
          obtain ⟨gb, rfl, ob⟩ := o11.2 hnb0
          have FB := hidU (ownFl_files ob)
          have hsb : ∀ y ∈ putFs fa (px, tx), y.1.size ≤ 2000 ∧ y.2.size ≤ 2000 := put_sizes (by intro y hy; have := HFew.out y hy; omega) ⟨hp9, by show tx.size ≤ _; omega⟩
          have hlb : (putFs fa (px, tx)).length ≤ 8 := (filesB_iff.1 hfp).1
          generalize hF : putFs fa (px, tx) = fb at *
          subst hnb
          have HPB : Hid (∀ j, j < fb.length → (ptOf fb j).size ≤ 1048576) := fun j hj => by have := (fs_sizes hsb j hj).1; omega
          have HTB : Hid (∀ j, j < fb.length → (txOf fb j).size ≤ 1048576) := fun j hj => by have := (fs_sizes hsb j hj).2; omega
          have HFB := hidU hfp
          clear o11 hpa ob hpi hfp hnb0 hsb O11 HBP hF
          have G11 := hidU FB.out
          clear FB
          have c0 : w11.cell? ⟨w9.heap.size, 0, none⟩ = some (.string px) := by simp [World.cell?, X11.out]
          go_wp2_with fail
          refine (C.fnd gb fb.length cb (ptOf fb) (txOf fb) px _ G11.out (by omega) HPB.out HTB.out (by omega)).mono ?_
          rintro e w12 ⟨rfl, b12⟩
          rw [show findS fb.length (ptOf fb) (txOf fb) px = (tx, true) from HPA.out.1]
          have B12 := hidU (B11.out.trans (b12.mono B11.out.size))
          have F12 := hidU (F11.out.later b12)
          have G12 := hidU (G11.out.later b12)
          have X12 := hidU (keep_b X11.out b12)
          clear b12 B11 F11 G11 X11 c0
          have c0 : w12.cell? ⟨w9.heap.size, 0, none⟩ = some (.string px) := by simp [World.cell?, X12.out]
          go_wp2_with fail
          refine (find_specC ga fa.length ca (ptOf fa) (txOf fa) px _ F12.out (by omega) HP.out HT.out).mono ?_
          rintro e w13 ⟨rfl, b13⟩
          generalize hr : findS fa.length (ptOf fa) (txOf fa) px = r
          have HR := hidU hr
          clear hr
          have B13 := hidU (B12.out.trans (b13.mono B12.out.size))
          have F13 := hidU (F12.out.later b13)
          have G13 := hidU (G12.out.later b13)
          have X13 := hidU (keep_b X12.out b13)
          clear b13 B12 F12 G12 X12 c0
          have c0 : w13.cell? ⟨w9.heap.size, 0, none⟩ = some (.string px) := by simp [World.cell?, X13.out]
          go_wp2_with fail
          refine (C.drp gb fb.length cb (ptOf fb) (txOf fb) px _ G13.out (by omega) HPB.out HTB.out (by omega)).mono ?_
          rintro e w14 ⟨ad, nd, cd, rfl, od, b14⟩
          rw [drop_is HFB.out] at od ⊢
          have hdl : (dropL fb px).length + 1 = fb.length := HPA.out.2.1
          rw [show decide ((dropL fb px).length < fb.length) = true from decide_eq_true (by omega)] at od ⊢
          have hnd : nd = (dropL fb px).length := od.1
          have OD := hidU od
          clear od
          have B14 := hidU (B13.out.trans (b14.mono B13.out.size))
          have F14 := hidU (F13.out.later b14)
          have G14 := hidU (G13.out.later b14)
          have X14 := hidU (keep_b X13.out b14)
          clear b14 B13 F13 G13 X13 c0
          have hndi : (nd : Int) = (fb.length : Int) - 1 := by omega
          have HND := hidU hnd
          clear hnd hdl
          have c0 : w14.cell? ⟨w9.heap.size, 0, none⟩ = some (.string px) := by simp [World.cell?, X14.out]
          go_wp2_with fail
          refine (C.chg ga fa.length ca (ptOf fa) (txOf fa) gb fb.length cb (ptOf fb) (txOf fb) _ F14.out G14.out (by omega) (by omega) HP.out HT.out HPB.out HTB.out).mono ?_
          rintro e w15 ⟨ac, nc, cc, rfl, oc, b15⟩
          rw [changed_is HFA.out HFB.out] at oc
          have OC := hidU oc
          clear oc
          have B15 := hidU (B14.out.trans (b15.mono B14.out.size))
          have F15 := hidU (F14.out.later b15)
          have G15 := hidU (G14.out.later b15)
          have X15 := hidU (keep_b X14.out b15)
          have OD15 := hidU (OD.out.later b15)
          clear b15 B14 F14 G14 X14 c0
          have c0 : w15.cell? ⟨w9.heap.size, 0, none⟩ = some (.string px) := by simp [World.cell?, X15.out]
          go_wp2_with fail
          refine (find_specC ga fa.length ca (ptOf fa) (txOf fa) px _ F15.out (by omega) HP.out HT.out).mono ?_
          rintro e w16 ⟨rfl, b16⟩
          rw [HR.out]
          have B16 := hidU (B15.out.trans (b16.mono B15.out.size))
          have F16 := hidU (F15.out.later b16)
          have G16 := hidU (G15.out.later b16)
          have X16 := hidU (keep_b X15.out b16)
          have OD16 := hidU (OD15.out.later b16)
          have OC16 := hidU (OC.out.later b16)
          clear b16 B15 F15 G15 X15 c0
          clear OD OD15 OC
          have C0 : Hid (w16.cell? ⟨w9.heap.size, 0, none⟩ = some (.string px)) := by show w16.cell? _ = _; simp [World.cell?, X16.out]
          have C1 : Hid (w16.cell? ⟨w9.heap.size, 1, none⟩ = some (.string tx)) := by show w16.cell? _ = _; simp [World.cell?, X16.out]
          obtain ⟨old, was⟩ := r
          cases was with
          | true =>
            by_cases ho : old = tx
            · subst ho
              have hch : changedF fa fb = [] := HPA.out.2.2.1 (by show (findS fa.length (ptOf fa) (txOf fa) px).2 = true ∧ (findS fa.length (ptOf fa) (txOf fa) px).1 = old; rw [HR.out]; exact ⟨rfl, rfl⟩)
              have oc := OC16.out
              rw [hch] at oc
              have hnc : nc = 0 := oc.1
              subst hnc
              clear oc hch
              go_wp2
              have k0 := cell_regrown C0.out
              have k1 := cell_regrown C1.out
              refine wp_region_quiet_below (by kernel_rfl) (by kernel_rfl) ?_
              repeat (go_big_quiet_step (fail))
              refine wpQuiet_nil ?_
              intro _ hw'
              obtain ⟨⟨dq, osq⟩, hw''⟩ := hw'
              subst hw''
              have BE := hidU (B16.out.trans ((below_regrown w16 dq osq).mono B16.out.size))
              go_wp2
              go_ret
              exact ⟨rfl, BE.out⟩
            · have hon := beq_no ho
              have hch : changedF fa fb = [px] := HPA.out.2.2.2.1 (fun h => ho (by have h2 : (findS fa.length (ptOf fa) (txOf fa) px).1 = tx := h.2; rw [HR.out] at h2; exact h2))
              have oc := OC16.out
              rw [hch] at oc
              have hnc : nc = 1 := oc.1
              subst hnc
              obtain ⟨gq, tq⟩ := oc.texts
              obtain rfl := tq.addr (by omega)
              have lq := tq.lt (by omega)
              have CQ : Hid (w16.cell? ⟨gq, 0, none⟩ = some (.string px)) := tq.cell 0 (by omega)
              clear oc tq hch
              go_wp2
              have k0 := cell_regrown C0.out
              have k1 := cell_regrown C1.out
              have kq := cell_regrown CQ.out
              refine wp_region_quiet_below (by kernel_rfl) (by kernel_rfl) ?_
              repeat (go_big_quiet_step (fail))
              refine wpQuiet_nil ?_
              intro _ hw'
              obtain ⟨⟨dq, osq⟩, hw''⟩ := hw'
              subst hw''
              have BE := hidU (B16.out.trans ((below_regrown w16 dq osq).mono B16.out.size))
              go_wp2
              go_ret
              exact ⟨rfl, BE.out⟩
          | false =>
            have hch : changedF fa fb = [px] := HPA.out.2.2.2.1 (fun h => (by have h1 : (findS fa.length (ptOf fa) (txOf fa) px).2 = true := h.1; rw [HR.out] at h1; cases h1))
            have oc := OC16.out
            rw [hch] at oc
            have hnc : nc = 1 := oc.1
            subst hnc
            obtain ⟨gq, tq⟩ := oc.texts
            obtain rfl := tq.addr (by omega)
            have lq := tq.lt (by omega)
            have CQ : Hid (w16.cell? ⟨gq, 0, none⟩ = some (.string px)) := tq.cell 0 (by omega)
            clear oc tq hch
            go_wp2
            have k0 := cell_regrown C0.out
            have k1 := cell_regrown C1.out
            have kq := cell_regrown CQ.out
            refine wp_region_quiet_below (by kernel_rfl) (by kernel_rfl) ?_
            repeat (go_big_quiet_step (fail))
            refine wpQuiet_nil ?_
            intro _ hw'
            obtain ⟨⟨dq, osq⟩, hw''⟩ := hw'
            subst hw''
            have BE := hidU (B16.out.trans ((below_regrown w16 dq osq).mono B16.out.size))
            have hdd : dropL fb px = fa := HPA.out.2.2.2.2 (by show (findS fa.length (ptOf fa) (txOf fa) px).2 = false; rw [HR.out])
            have od := OD16.out
            rw [hdd] at od
            have e2 : nd = fa.length := od.1
            subst e2
            obtain ⟨gd, fd⟩ := od.files
            clear od hdd
            go_wp2_with fail
            refine (sameFiles_with neqFl grdFl ad _ gd ga fa.length cd ca (ptOf fa) (txOf fa) _ (fd.later (below_regrown w16 dq osq)) (F16.out.later (below_regrown w16 dq osq)) (by omega)).mono ?_
            rintro e w17 ⟨rfl, b17⟩
            have B17 := hidU (BE.out.trans (b17.mono BE.out.size))
            clear b17
            go_wp2
            go_ret
            exact ⟨rfl, B17.out⟩
end Go.Proofs.Ytdbpknmoacjodaa
