/-
  What spec.l7Files tells: some files, none of them long: the walk.
  What spec.l2Some tells: some texts, none of them long: the walk.
  What l1Text of the specification tells: the walk.
  'append' of one file onto a row of the call's own, as one step of a region that draws its order. No program is spoken of.
  What spec.DrawFilesOk and spec.DrawShowFiles tell: some files, none of them long: the walks.
  What spec.l1Spoil tells: the walk.
  What the specification's draw of a program's text tells: some text, not a long one: the walk.
-/
import Derived.Deep.LoopGhost
import Derived.Test.YtdbpknmoacjodaaCfLawFiles
namespace Go.Proofs.Ytdbpknmoacjodaa
open Go.RowKit Go.PlainAid

structure FlW (S : Src) (w wr : World) (gc : Nat) (q : Nat × Int) (g n cap : Nat) (fs : List Fl) : Prop where
  cur : CurW 201 S wr gc q
  four : FourW wr w.heap.size
  gpl : gc < w.heap.size ∧ w.heap.size < wr.heap.size
  own : OwnFl wr (w.heap.size + 1) 52 g n cap fs
  few : ∀ x ∈ fs, x.1.size ≤ 100 ∧ x.2.size ≤ 10000
  grow : w.grownBy wr (some gc)
theorem FlW.draw {S : Src} {w wr W : World} {gc : Nat} {q q' : Nat × Int} {g n cap : Nat} {fs : List Fl} (h : FlW S w wr gc q g n cap fs) (hc : CurW 201 S W gc q') (k : wr.grownBy W (some gc)) : FlW S w W gc q' g n cap fs := by
  have hg := ownFl_blk h.own
  have h1 := h.gpl
  exact ⟨hc, h.four.grown k (Nat.ne_of_lt h1.1), ⟨h1.1, Nat.lt_of_lt_of_le h1.2 k.size⟩, ownFl_keep h.own (k.block g hg.2 (fun e => by have := Option.some.inj e; omega)), h.few, grown_trans h.grow k⟩
theorem FlW.below {S : Src} {w wr W : World} {gc : Nat} {q : Nat × Int} {g n cap : Nat} {fs : List Fl} (h : FlW S w wr gc q g n cap fs) (hb : Below wr.heap.size wr W) : FlW S w W gc q g n cap fs := by
  have h1 := h.gpl
  exact ⟨curW_below h.cur hb (curW_lt h.cur), (hb.block _ (Array.getElem?_eq_some_iff.1 h.four).1).trans h.four, ⟨h1.1, Nat.lt_of_lt_of_le h1.2 hb.size⟩, ownFl_later h.own hb, h.few, grown_below h.grow hb h.grow.size⟩
theorem FlW.app {S : Src} {w wr W : World} {gc : Nat} {q : Nat × Int} {g n cap g' cap' : Nat} {fs : List Fl} {b : Fl} (h : FlW S w wr gc q g n cap fs) (ho : OwnFl W (w.heap.size + 1) 52 g' (n + 1) cap' (fs ++ [b])) (k : wr.grownBy W (some g)) (hb : b.1.size ≤ 100 ∧ b.2.size ≤ 10000) : FlW S w W gc q g' (n + 1) cap' (fs ++ [b]) := by
  have hg := ownFl_blk h.own
  have h1 := h.gpl
  refine ⟨curW_kept h.cur (fun j hj => k.block j (by omega) (fun e => by have := Option.some.inj e; omega)), h.four.grown k (by omega), ⟨h1.1, Nat.lt_of_lt_of_le h1.2 k.size⟩, ho, fun x hx => ?_, ?_⟩
  · rcases List.mem_append.1 hx with hx | hx
    · exact h.few x hx
    · rw [List.mem_singleton.1 hx]
      exact hb
  · have u := h.grow
    exact ⟨k.os.trans u.os, k.tape.trans u.tape, k.output.trans u.output, Nat.le_trans u.size k.size, fun i hi hne => (k.block i (Nat.lt_of_lt_of_le hi u.size) (fun e => by have := Option.some.inj e; omega)).trans (u.block i hi hne)⟩
def FilesOut (S : Src) (gc : Nat) (w : World) (e : Ending) (w' : World) : Prop :=
  ∃ g n cap fs q', e = .returned (.slice (some ⟨g, 0, none⟩) n cap) ∧ OwnFl w' w.heap.size 52 g n cap fs ∧ n ≤ 4 ∧ (∀ y ∈ fs, y.1.size ≤ 100 ∧ y.2.size ≤ 10000) ∧ CurW 201 S w' gc q' ∧ w.grownBy w' (some gc)
set_option maxRecDepth 100000 in
set_option maxHeartbeats 12800000 in
theorem l7Files_some (S : Src) (hS : S.ok) (gc most : Nat) (hm : most ≤ 2) (q0 : Nat × Int) (w : World) (hc : CurW 201 S w gc q0) : Calls Try.prog 85 #[.pointer (some ⟨gc, 0, none⟩), .int .i64 (most : Int)] w (FilesOut S gc w) := by
  obtain ⟨i0, hi, hz0, hz1, hz2⟩ := info_parts Try.infoFile
  have hlt := curW_lt hc
  have HC0 := hidI (cur_alloc hc (.cells fourL 9))
  have HG0 := hidI (grown_alloc w (.cells fourL 9) (some gc))
  have HF0 : Hid (FourW (w.alloc (.cells fourL 9)) w.heap.size) := heap_alloc_new w _
  clear hc
  go_enter Try.func85, Try.ntmps85
  go_wp2_with fail
  refine (l1Below_any S hS gc q0 4 _ HC0.out (by omega)).mono ?_
  rintro e w1 ⟨rfl, hc, hg⟩
  have hbd := bw_bd S q0 4 (by omega)
  obtain ⟨k1, hk'⟩ : ∃ k : Nat, (bw S q0 4).1 = k := ⟨(bw S q0 4).1.toNat, by omega⟩
  obtain ⟨q1, hq⟩ : ∃ q', (bw S q0 4).2 = q' := ⟨_, rfl⟩
  rw [hk'] at hbd ⊢
  rw [hq] at hc
  have hsz : w.heap.size < w1.heap.size := Nat.lt_of_lt_of_le (by show _ < (w.heap.push _).size; simp) hg.size
  have FW0 : Hid (FlW S w (w1.alloc (.cells #[] 52)) gc q1 w1.heap.size 0 0 []) := by
    refine ⟨cur_alloc hc _, ?_, ⟨hlt, by rw [alloc_size]; omega⟩, ?_, fun x hx => by simp at hx, grown_trans (grown_trans HG0.out hg) (grown_alloc _ _ _)⟩
    · exact (heap_alloc_old _ _ hsz).trans (HF0.out.grown hg (Nat.ne_of_lt hlt))
    · exact ownFl_low (ownFl_nil w1 52) hsz
  obtain ⟨m, hmm⟩ : ∃ m : Nat, m = k1 + 1 := ⟨_, rfl⟩
  have em : (1 : Int) + (k1 : Int) = (m : Int) := by omega
  have hm4 : m ≤ 4 := by omega
  clear hc hg HC0 HG0 HF0 hk' hq hbd hmm
  go_wp2
  go_loopg [7, 8, 9, 10, 11, 12, 13] m (fun k o kv s9 s10 s11 s12 s13 wr => ∃ (j g cap : Nat) (q : Nat × Int) (fs : List Fl), kv = .int .i64 (j : Int) ∧ o = .slice (some ⟨g, 0, none⟩) j cap ∧ j + k = m ∧ FlW S w wr gc q g j cap fs)
  case atStart => exact ⟨0, _, 0, q1, [], rfl, rfl, by omega, FW0.out⟩
  case round =>
    obtain ⟨j, g, cap, q, fs, rfl, rfl, hj, hw⟩ := hrel
    have FW1 := hidI hw
    clear hw FW0
    by_cases hlj : j < m
    · have hji : (j : Int) < (m : Int) := by omega
      obtain ⟨xm, cm, zm⟩ := FW1.out.four.at (j := j) (by omega)
      have hsw := FW1.out.gpl.2
      have j4 : (j : Int) < 4 := by omega
      go_wp2_with fail
      refine (l1Below_any S hS gc q ((most : Int) + 1) _ FW1.out.cur (by omega)).mono ?_
      rintro e w2 ⟨rfl, hc, hg⟩
      have hbd := bw_bd S q ((most : Int) + 1) (by omega)
      obtain ⟨k2, hk'⟩ : ∃ k : Nat, (bw S q ((most : Int) + 1)).1 = k := ⟨(bw S q ((most : Int) + 1)).1.toNat, by omega⟩
      obtain ⟨q2, hq⟩ : ∃ q', (bw S q ((most : Int) + 1)).2 = q' := ⟨_, rfl⟩
      rw [hk'] at hbd ⊢
      rw [hq] at hc
      have FW2 := hidI (FW1.out.draw hc hg)
      have kb2 : k2 ≤ 2 := by omega
      clear hc hg hk' hq hbd FW1 cm hsw
      go_wp2
      go_loopg [10, 11] k2 (fun k tv iv wr => ∃ (x : ByteArray) (q : Nat × Int), iv = .int .i64 (k : Int) ∧ tv = .string x ∧ k ≤ 2 ∧ x.size + 2000 * k ≤ 4000 ∧ FlW S w wr gc q g j cap fs)
      case atStart => exact ⟨_, q2, rfl, rfl, kb2, by have : ({ data := #[] } : ByteArray).size = 0 := rfl; omega, FW2.out⟩
      case round =>
        obtain ⟨x, q3, rfl, rfl, hk3, hx3, hw⟩ := hrel
        have FW3 := hidI hw
        clear hw FW2
        by_cases hpos : 0 < gk
        · have hpi : 0 < (gk : Int) := by omega
          go_wp2_with fail
          refine (l7Line_some S hS gc j m (by omega) (by omega) (by omega) q3 _ FW3.out.cur).mono ?_
          rintro e w4 ⟨x4, q4, rfl, z4, hc, hg⟩
          have FW4 := hidI (FW3.out.draw hc hg)
          clear hc hg FW3
          have hz1 : (x ++ x4).size = x.size + x4.size := ByteArray.size_append
          have ek : (gk : Int) - 1 = ((gk - 1 : Nat) : Int) := by omega
          go_wp2
          go_roundg (gk - 1)
          case rel => exact ⟨_, q4, rfl, rfl, by omega, by omega, FW4.out⟩
          case measure => omega
        · have hpi : ¬ 0 < (gk : Int) := by omega
          go_wp2_with fail
          refine (dec_spec ((j : Int) + 1) _ (by omega)).mono ?_
          rintro e w5 ⟨rfl, hb⟩
          have FW5 := hidI (FW3.out.below hb)
          clear hb FW3
          obtain ⟨d1, hd1⟩ : ∃ d, d = strOfNums (decL ((j : Int) + 1)) := ⟨_, rfl⟩
          have zd1 : d1.size ≤ 21 := by rw [hd1]; exact dec_size _ (by omega) (by omega)
          rw [← hd1]
          clear hd1
          go_wp2_with fail
          refine (dec_spec (10 * (j : Int)) _ (by omega)).mono ?_
          rintro e w6 ⟨rfl, hb⟩
          have FW6 := hidI (FW5.out.below hb)
          clear hb FW5
          obtain ⟨d2, hd2⟩ : ∃ d, d = strOfNums (decL (10 * (j : Int))) := ⟨_, rfl⟩
          have zd2 : d2.size ≤ 21 := by rw [hd2]; exact dec_size _ (by omega) (by omega)
          rw [← hd2]
          clear hd2
          obtain ⟨df, hdf⟩ : ∃ d, d = ({ data := #[101, 120, 112, 111, 114, 116, 32, 108, 101, 116, 32, 118] } : ByteArray) ++ xm ++ ({ data := #[32, 61, 32] } : ByteArray) ++ d1 ++ ({ data := #[59, 10, 101, 120, 112, 111, 114, 116, 32, 102, 117, 110, 99, 116, 105, 111, 110, 32, 102] } : ByteArray) ++ xm ++ ({ data := #[40, 41, 32, 123, 32, 114, 101, 116, 117, 114, 110, 32, 118] } : ByteArray) ++ xm ++ ({ data := #[32, 43, 32, 119] } : ByteArray) ++ xm ++ ({ data := #[59, 32, 125, 10, 108, 101, 116, 32, 119] } : ByteArray) ++ xm ++ ({ data := #[32, 61, 32] } : ByteArray) ++ d2 ++ ({ data := #[59, 10, 101, 120, 112, 111, 114, 116, 32, 123, 32, 119] } : ByteArray) ++ xm ++ ({ data := #[32, 125, 59, 10, 101, 120, 112, 111, 114, 116, 32, 100, 101, 102, 97, 117, 108, 116, 32, 118] } : ByteArray) ++ xm ++ ({ data := #[32, 42, 32, 53, 59, 10] } : ByteArray) := ⟨_, rfl⟩
          have zdf : df.size ≤ 300 := by rw [hdf]; have y0 : (({ data := #[101, 120, 112, 111, 114, 116, 32, 108, 101, 116, 32, 118] } : ByteArray)).size = 12 := rfl; have y1 : (({ data := #[32, 61, 32] } : ByteArray)).size = 3 := rfl; have y2 : (({ data := #[59, 10, 101, 120, 112, 111, 114, 116, 32, 102, 117, 110, 99, 116, 105, 111, 110, 32, 102] } : ByteArray)).size = 19 := rfl; have y3 : (({ data := #[40, 41, 32, 123, 32, 114, 101, 116, 117, 114, 110, 32, 118] } : ByteArray)).size = 13 := rfl; have y4 : (({ data := #[32, 43, 32, 119] } : ByteArray)).size = 4 := rfl; have y5 : (({ data := #[59, 32, 125, 10, 108, 101, 116, 32, 119] } : ByteArray)).size = 9 := rfl; have y6 : (({ data := #[59, 10, 101, 120, 112, 111, 114, 116, 32, 123, 32, 119] } : ByteArray)).size = 12 := rfl; have y7 : (({ data := #[32, 125, 59, 10, 101, 120, 112, 111, 114, 116, 32, 100, 101, 102, 97, 117, 108, 116, 32, 118] } : ByteArray)).size = 20 := rfl; have y8 : (({ data := #[32, 42, 32, 53, 59, 10] } : ByteArray)).size = 6 := rfl; simp only [ByteArray.size_append, y0, y1, y2, y3, y4, y5, y6, y7, y8]; omega
          go_wp2_with fail
          refine (l1Once_any S hS gc q3 2 _ FW6.out.cur (by omega)).mono ?_
          rintro e w7 ⟨rfl, hc, hg⟩
          obtain ⟨q7, hq⟩ : ∃ q', (bw S q3 2).2 = q' := ⟨_, rfl⟩
          rw [hq] at hc
          have FW7 := hidI (FW6.out.draw hc hg)
          clear hc hg hq FW6
          try rw [← hdf]
          clear hdf
          generalize ((bw S q3 2).1 == 0) = b
          have zs : (x ++ df).size = x.size + df.size := ByteArray.size_append
          have zs2 : (df ++ x).size = df.size + x.size := ByteArray.size_append
          cases b with
          | false =>
            by_cases hl : 1500 < (x ++ df).size
            · have hli : (1500 : Int) < ((x ++ df).size : Int) := by omega
              have h7 := FW7.out.gpl.2
              go_wp2_with (at_builtin; refine app_file w7 rfl _ _ 48 rfl (w.heap.size + 1) 52 i0 _ Try.underlying48 hi hz0 hz1 hz2 rfl g j cap fs (by rfl) (FW7.out.own) (({ data := #[47] } : ByteArray) ++ xm, df) (by rfl) (by omega) ?_; intro g3 cap3 w9 ho9 hg9 hat9)
              go_roundg (m - (j + 1))
              case rel => exact ⟨j + 1, g3, cap3, _, _, by go_num, rfl, by omega, FW7.out.app ho9 hg9 ⟨by rw [ByteArray.size_append]; have : ({ data := #[47] } : ByteArray).size = 1 := rfl; omega, by show ByteArray.size (df) ≤ 10000; omega⟩⟩
              case measure => omega
            · have hli : ¬ (1500 : Int) < ((x ++ df).size : Int) := by omega
              have h7 := FW7.out.gpl.2
              go_wp2_with (at_builtin; refine app_file w7 rfl _ _ 48 rfl (w.heap.size + 1) 52 i0 _ Try.underlying48 hi hz0 hz1 hz2 rfl g j cap fs (by rfl) (FW7.out.own) (({ data := #[47] } : ByteArray) ++ xm, x ++ df) (by rfl) (by omega) ?_; intro g3 cap3 w9 ho9 hg9 hat9)
              go_roundg (m - (j + 1))
              case rel => exact ⟨j + 1, g3, cap3, _, _, by go_num, rfl, by omega, FW7.out.app ho9 hg9 ⟨by rw [ByteArray.size_append]; have : ({ data := #[47] } : ByteArray).size = 1 := rfl; omega, by show ByteArray.size (x ++ df) ≤ 10000; omega⟩⟩
              case measure => omega
          | true =>
            by_cases hl : 1500 < (df ++ x).size
            · have hli : (1500 : Int) < ((df ++ x).size : Int) := by omega
              have h7 := FW7.out.gpl.2
              go_wp2_with (at_builtin; refine app_file w7 rfl _ _ 48 rfl (w.heap.size + 1) 52 i0 _ Try.underlying48 hi hz0 hz1 hz2 rfl g j cap fs (by rfl) (FW7.out.own) (({ data := #[47] } : ByteArray) ++ xm, df) (by rfl) (by omega) ?_; intro g3 cap3 w9 ho9 hg9 hat9)
              go_roundg (m - (j + 1))
              case rel => exact ⟨j + 1, g3, cap3, _, _, by go_num, rfl, by omega, FW7.out.app ho9 hg9 ⟨by rw [ByteArray.size_append]; have : ({ data := #[47] } : ByteArray).size = 1 := rfl; omega, by show ByteArray.size (df) ≤ 10000; omega⟩⟩
              case measure => omega
            · have hli : ¬ (1500 : Int) < ((df ++ x).size : Int) := by omega
              have h7 := FW7.out.gpl.2
              go_wp2_with (at_builtin; refine app_file w7 rfl _ _ 48 rfl (w.heap.size + 1) 52 i0 _ Try.underlying48 hi hz0 hz1 hz2 rfl g j cap fs (by rfl) (FW7.out.own) (({ data := #[47] } : ByteArray) ++ xm, df ++ x) (by rfl) (by omega) ?_; intro g3 cap3 w9 ho9 hg9 hat9)
              go_roundg (m - (j + 1))
              case rel => exact ⟨j + 1, g3, cap3, _, _, by go_num, rfl, by omega, FW7.out.app ho9 hg9 ⟨by rw [ByteArray.size_append]; have : ({ data := #[47] } : ByteArray).size = 1 := rfl; omega, by show ByteArray.size (df ++ x) ≤ 10000; omega⟩⟩
              case measure => omega
    · have hji : ¬ (j : Int) < (m : Int) := by omega
      go_wp2
      go_ret
      exact ⟨g, j, cap, fs, q, rfl, ownFl_low FW1.out.own (by omega), by omega, FW1.out.few, FW1.out.cur, FW1.out.grow⟩
end Go.Proofs.Ytdbpknmoacjodaa
namespace Go.Proofs.Ytdbpknmoacjodaa
open Go.RowKit Go.PlainAid

set_option maxHeartbeats 1600000 in
theorem l2Some_some (S : Src) (hS : S.ok) (g : Nat) (q : Nat × Int) (w : World) (hc : CurW 201 S w g q) :
    Calls Try.prog 90 #[.pointer (some ⟨g, 0, none⟩)] w fun e w' => ∃ x q', e = .returned (.string x) ∧ x.size ≤ 100 ∧ CurW 201 S w' g q' ∧ w.grownBy w' (some g) := by
  go_enter Try.func90, Try.ntmps90
  go_wp2_with fail
  refine (l1Pick_some S hS g q w.heap.size 10 _ (curW_below hc ((Below.refl w.heap.size w).alloc (Nat.le_refl _) _) (curW_lt hc)) (by omega) (by omega) (by simp) (by have := curW_lt hc; omega) ?_).mono ?_
  · intro j hj
    rw [World.cell?_alloc_new]
    match j, hj with
    | 0, _ | 1, _ | 2, _ | 3, _ | 4, _ | 5, _ | 6, _ | 7, _ | 8, _ | 9, _ => exact ⟨_, rfl, by decide⟩
    | j + 10, hj => omega
  rintro e w1 ⟨x, q1, rfl, hxs, hc1, hg1⟩
  have hg1' : w.grownBy w1 (some g) := grown_trans (grown_below (World.grownBy.refl w _) ((Below.refl w.heap.size w).alloc (Nat.le_refl _) _) (Nat.le_refl _)) hg1
  clear hg1
  by_cases ho : ((bw S q1 8).1 == 0) = true
  · go_wp2_with fail
    refine (l1Once_any S hS g q1 8 _ hc1 (by omega)).mono ?_
    rintro e w2 ⟨rfl, hc2, hg2⟩
    go_wp2_with fail
    refine (l1Pick_some S hS g _ w2.heap.size 8 _ (curW_below hc2 ((Below.refl w2.heap.size w2).alloc (Nat.le_refl _) _) (curW_lt hc2)) (by omega) (by omega) (by simp) (by have := curW_lt hc2; omega) ?_).mono ?_
    · intro j hj
      rw [World.cell?_alloc_new]
      match j, hj with
      | 0, _ | 1, _ | 2, _ | 3, _ | 4, _ | 5, _ | 6, _ | 7, _ => exact ⟨_, rfl, by decide⟩
      | j + 8, hj => omega
    rintro e w3 ⟨y, q3, rfl, hys, hc3, hg3⟩
    have hgr := grown_trans (grown_below (grown_trans hg1' hg2) ((Below.refl w2.heap.size w2).alloc (Nat.le_refl _) _) (Nat.le_trans hg1'.size hg2.size)) hg3
    clear hg3
    go_wp2
    go_ret
    exact ⟨y, q3, rfl, hys, hc3, hgr⟩
  · have ho' : ((bw S q1 8).1 == 0) = false := by simpa using ho
    clear ho
    go_wp2_with fail
    refine (l1Once_any S hS g q1 8 _ hc1 (by omega)).mono ?_
    rintro e w2 ⟨rfl, hc2, hg2⟩
    go_wp2
    go_ret
    exact ⟨x, _, rfl, hxs, hc2, grown_trans hg1' hg2⟩
end Go.Proofs.Ytdbpknmoacjodaa
namespace Go.Proofs.Ytdbpknmoacjodaa
open Go.RowKit Go.PlainAid

def TxAt (S : Src) (y : Int) (T : List Int × (Nat × Int)) (acc : List Int) (n : Nat) (q : Nat × Int) : Prop := acc ++ (txGo S y n q).1 = T.1 ∧ (txGo S y n q).2 = T.2
theorem txAt_next {S : Src} {y : Int} {T : List Int × (Nat × Int)} {acc : List Int} {n : Nat} {q : Nat × Int} (h : TxAt S y T acc (n + 1) q) : TxAt S y T (acc ++ [chr y (cb S q).1]) n (cb S q).2 := by
  obtain ⟨a, b⟩ := h
  rw [txGo] at a b
  exact ⟨by rw [List.append_assoc]; exact a, b⟩
theorem txAt_end {S : Src} {y : Int} {T : List Int × (Nat × Int)} {acc : List Int} {q : Nat × Int} (h : TxAt S y T acc 0 q) : acc = T.1 ∧ q = T.2 := by
  obtain ⟨a, b⟩ := h
  rw [txGo] at a b
  exact ⟨by simpa using a, b⟩

set_option maxHeartbeats 1600000 in
theorem l1Text_any (S : Src) (hS : S.ok) (g : Nat) (q : Nat × Int) (most : Int) (w : World) (hc : CurW 201 S w g q) (hm0 : 0 ≤ most) (hm1 : most ≤ 1000) :
    Calls Try.prog 91 #[.pointer (some ⟨g, 0, none⟩), .int .i64 most] w fun e w' => e = .returned (.string (strOfNums (tx S q most).1)) ∧ CurW 201 S w' g (tx S q most).2 ∧ w.grownBy w' (some g) := by
  obtain ⟨i0, hi, hz0, hz1, hz2⟩ := info_parts Try.infoByte
  have hgw := curW_lt hc
  have hbn := bw_bd S (bw S q 4).2 (most + 1) (by omega)
  have HT : Hid (tx S q most = txGo S (bw S q 4).1 (bw S (bw S q 4).2 (most + 1)).1.toNat (bw S (bw S q 4).2 (most + 1)).2) := rfl
  go_enter Try.func91, Try.ntmps91
  go_wp2_with fail
  refine (l1Below_any S hS g q 4 _ (curW_below hc ((Below.refl w.heap.size w).alloc (Nat.le_refl _) _) hgw) (by omega)).mono ?_
  rintro e w1 ⟨rfl, hc1, hg1⟩
  go_wp2_with fail
  refine (l1Below_any S hS g _ (most + 1) _ hc1 (by omega)).mono ?_
  rintro e w2 ⟨rfl, hc2, hg2⟩
  have hown : OwnB w2 w.heap.size 5 (.slice (some ⟨w.heap.size, 0, none⟩) 0 0) 0 [] := by
    have h0 : OwnB (w.alloc (.cells #[] 5)) w.heap.size 5 (.slice (some ⟨w.heap.size, 0, none⟩) 0 0) 0 [] := World.ownsRow_lit w #[] 0 (Nat.le_refl _) (by unfold maxLen; omega) rfl
    exact ownB_grown (ownB_grown h0 hg1 hgw) hg2 hgw
  have hgr : w.grownBy w2 (some g) := grown_trans (grown_trans (grown_below (World.grownBy.refl w _) ((Below.refl w.heap.size w).alloc (Nat.le_refl _) (.cells #[] 5)) (Nat.le_refl _)) hg1) hg2
  obtain ⟨m0, hm0e⟩ : ∃ m : Nat, (bw S (bw S q 4).2 (most + 1)).1 = m := ⟨(bw S (bw S q 4).2 (most + 1)).1.toNat, by omega⟩
  rw [hm0e]
  have HST : Hid (TxAt S (bw S q 4).1 (tx S q most) [] m0 (bw S (bw S q 4).2 (most + 1)).2) := by
    show TxAt _ _ _ _ _ _
    have e := HT.out
    rw [hm0e, Int.toNat_natCast] at e
    rw [e]
    exact ⟨rfl, rfl⟩
  have hm0b : m0 ≤ 1000 := by omega
  clear hm0e HT hbn hc hc1 hg1 hg2
  go_wp2
  go_loopw [5, 7, 8] (fun v n _ wr => ∃ (k : Nat) (acc : List Int) (m : Nat) (p : Nat × Int), n = .int .i64 m ∧ k + m ≤ 1000 ∧ TxAt S (bw S q 4).1 (tx S q most) acc m p ∧ OwnB wr w.heap.size 5 v k acc ∧ CurW 201 S wr g p ∧ w.grownBy wr (some g)) (fun _ n _ _ => (intOf n).toNat)
  case atStart => exact ⟨0, [], m0, _, rfl, by omega, HST.out, hown, hc2, hgr⟩
  case round =>
    obtain ⟨k, acc, m, p, rfl, hkm, hat, hownr, hcr, hgrr⟩ := hrel
    have HAT := hat
    clear hat hown hc2 hgr
    match m, hkm, HAT with
    | 0, hkm, HAT =>
      obtain ⟨e1, e2⟩ := txAt_end HAT
      have HE1 : Hid (acc = (tx S q most).1) := e1
      have HE2 : Hid (p = (tx S q most).2) := e2
      clear e1 e2 HAT
      rw [HE1.out] at hownr
      have hst := run_string_own (P := Try.prog) (src := 59) (dst := 9) Try.underlying59 Try.underlying5 Try.underlying9 hownr
      go_wp2
      go_ret
      exact ⟨rfl, by rw [← HE2.out]; exact hcr, hgrr⟩
    | m + 1, hkm, HAT0 =>
      have HAT : Hid (TxAt S (bw S q 4).1 (tx S q most) acc (m + 1) p) := HAT0
      clear HAT0
      have hcb := cb_bd S p
      by_cases h1 : (bw S q 4).1 = 1
      · have q1 : ((bw S q 4).1 == 1) = true := by simpa using h1
        have q2 : ((bw S q 4).1 == 2) = false := by rw [h1]; rfl
        have HCH : Hid (chr (bw S q 4).1 (cb S p).1 = (cb S p).1 % 2) := by show chr _ _ = _; rw [chr, if_pos h1]
        clear h1
        go_wp2_with (first | (go_at_call 149; refine (l1Byte_any S hS g p _ hcr).mono ?_; rintro e w3 ⟨rfl, hc3, hg3⟩; have hown3 := ownB_grown hownr hg3 hgw; have hsz3 := Nat.le_trans hgrr.size hg3.size) | (at_builtin; refine app_byte w3 rfl _ _ 59 rfl w.heap.size 5 i0 Try.underlying59 hi hz0 hz1 hz2 _ k acc (by rfl) hown3 ((cb S p).1 % 2) (by rfl) (by omega) hsz3 ?_))
        intro v' w4 hown4 hb4
        go_wp2
        go_roundw
        case rel => exact ⟨k + 1, acc ++ [(cb S p).1 % 2], m, (cb S p).2, by go_num, by omega, by rw [← HCH.out]; exact txAt_next HAT.out, hown4, curW_below hc3 hb4 hgw, grown_below (grown_trans hgrr hg3) hb4 (Nat.le_refl _)⟩
        case measure => simp [intOf]
      · have q1 : ((bw S q 4).1 == 1) = false := by simpa using h1
        by_cases h2 : (bw S q 4).1 = 2
        · have q2 : ((bw S q 4).1 == 2) = true := by simpa using h2
          have HCH : Hid (chr (bw S q 4).1 (cb S p).1 = 97 + (cb S p).1 % 4) := by show chr _ _ = _; rw [chr, if_neg h1, if_pos h2]
          clear h1 h2
          go_wp2_with (first | (go_at_call 149; refine (l1Byte_any S hS g p _ hcr).mono ?_; rintro e w3 ⟨rfl, hc3, hg3⟩; have hown3 := ownB_grown hownr hg3 hgw; have hsz3 := Nat.le_trans hgrr.size hg3.size) | (at_builtin; refine app_byte w3 rfl _ _ 59 rfl w.heap.size 5 i0 Try.underlying59 hi hz0 hz1 hz2 _ k acc (by rfl) hown3 (97 + (cb S p).1 % 4) (by rfl) (by omega) hsz3 ?_))
          intro v' w4 hown4 hb4
          go_wp2
          go_roundw
          case rel => exact ⟨k + 1, acc ++ [97 + (cb S p).1 % 4], m, (cb S p).2, by go_num, by omega, by rw [← HCH.out]; exact txAt_next HAT.out, hown4, curW_below hc3 hb4 hgw, grown_below (grown_trans hgrr hg3) hb4 (Nat.le_refl _)⟩
          case measure => simp [intOf]
        · have q2 : ((bw S q 4).1 == 2) = false := by simpa using h2
          have HCH : Hid (chr (bw S q 4).1 (cb S p).1 = (cb S p).1) := by show chr _ _ = _; rw [chr, if_neg h1, if_neg h2]
          clear h1 h2
          go_wp2_with (first | (go_at_call 149; refine (l1Byte_any S hS g p _ hcr).mono ?_; rintro e w3 ⟨rfl, hc3, hg3⟩; have hown3 := ownB_grown hownr hg3 hgw; have hsz3 := Nat.le_trans hgrr.size hg3.size) | (at_builtin; refine app_byte w3 rfl _ _ 59 rfl w.heap.size 5 i0 Try.underlying59 hi hz0 hz1 hz2 _ k acc (by rfl) hown3 ((cb S p).1) (by rfl) (by omega) hsz3 ?_))
          intro v' w4 hown4 hb4
          go_wp2
          go_roundw
          case rel => exact ⟨k + 1, acc ++ [(cb S p).1], m, (cb S p).2, by go_num, by omega, by rw [← HCH.out]; exact txAt_next HAT.out, hown4, curW_below hc3 hb4 hgw, grown_below (grown_trans hgrr hg3) hb4 (Nat.le_refl _)⟩
          case measure => simp [intOf]
end Go.Proofs.Ytdbpknmoacjodaa
namespace Go.Proofs.Ytdbpknmoacjodaa
open Go.RowKit Go.PlainAid

theorem step_file {P : Program} {ops : Array Oper} {o : Oper} {a : Act} {W : World} {K : Act → World → Prop} {Q : Exit → Act → World → Prop} {E : Prop} (hgd : o.guard = none) (s x : Operand) (t : TypeId)
    (ho : o.op = .call { callee := .builtin .append, args := #[s, x], argTypes := #[t, t] })
    (base : Nat) (e : TypeId) (i : TypeInfo) (z : Value) (ht : P.underlying t = some (.slice e)) (hi : P.info? e = some i) (hz : i.zero = some z) (hsize : i.size = 2) (hby : i.bytes = 32) (hzs : z.cells.size = 2)
    (g n cap : Nat) (fs : List Fl) (hs : a.eval s = .slice (some ⟨g, 0, none⟩) n cap) (hown : OwnFl W base e g n cap fs)
    (gx : Nat) (b : Fl) (hx : a.eval x = .slice (some ⟨gx, 0, none⟩) 1 1) (hg : W.heap[gx]? = some (.cells #[.string b.1, .string b.2] e (0, 0))) (hn : n + 1 ≤ 1000000)
    (h : ∀ g' cap' w', OwnFl w' base e g' (n + 1) cap' (fs ++ [b]) → W.grownBy w' (some g) → (g' = g ∨ W.heap.size ≤ g') → K (a.put o.dst (.slice (some ⟨g', 0, none⟩) (n + 1) cap')) w') :
    if Region.wanted o (yielded ops a.tmps) = true then Oper.wp P o a W K Q else E := by
  have hw : Region.wanted o (yielded ops a.tmps) = true := by simp [Region.wanted, hgd]
  rw [if_pos hw]
  obtain ⟨hb0, hb1⟩ := ownFl_blk hown
  obtain ⟨v', w', hr, h2, h3, _, h5⟩ := run_append_own_at (P := P) W base t o.type e i z 2 32 ht hi hz hsize hby hzs (by decide) _ n _ hown.1 ⟨gx, 0, none⟩ 1 1 (flL b) rfl (by
    intro j u hj
    have e1 : (⟨gx, 0, none⟩ : Addr).add j = ⟨gx, j, none⟩ := by simp [Addr.add]; exact fun h => h.symm
    rw [e1]
    match j, hj with
    | 0, hj => cases hj; simp [World.cell?, hg]
    | 1, hj => cases hj; simp [World.cell?, hg]) (by
    intro u hu
    simp [flL] at hu
    rcases hu with rfl | rfl <;> rfl) (by unfold maxLen; omega) (by omega) (by omega)
  unfold Oper.wp execOp
  simp only [ho, resolve, invoke, builtin, Sem.run_bind, Sem.run_pure, Result.andThen_ok, List.map_toArray, List.map_cons, List.map_nil, hs, hx, hr]
  rcases h2.2 with ⟨hv, hn0⟩ | ⟨g', cap', cur, rfl, hrest⟩
  · omega
  · refine h g' cap' w' ⟨by rw [List.flatMap_append]; simpa using h2, by rw [List.length_append]; have := hown.2; simp; omega⟩ h3 ?_
    have k4 : some g' = some g ∨ some g' = some W.heap.size := h5
    rcases k4 with k | k
    · exact .inl (Option.some.inj k)
    · exact .inr (Nat.le_of_eq (Option.some.inj k).symm)
end Go.Proofs.Ytdbpknmoacjodaa
namespace Go.Proofs.Ytdbpknmoacjodaa
open Go.RowKit Go.PlainAid

structure FoW (S : Src) (w wr : World) (gc gp : Nat) (q : Nat × Int) (g n cap : Nat) (fs : List Fl) : Prop where
  cur : CurW 201 S wr gc q
  lit : ∀ j, j < 5 → ∃ x, wr.cell? ⟨gp, j, none⟩ = some (.string x) ∧ x.size ≤ 100
  gpl : w.heap.size ≤ gc ∧ gc < gp ∧ gp < wr.heap.size
  ne : g ≠ gp
  own : OwnFl wr (gc + 1) 52 g n cap fs
  few : ∀ x ∈ fs, x.1.size ≤ 100 ∧ x.2.size ≤ 100
  bel : Below w.heap.size w wr
theorem cell_keptP {w W : World} {g j : Nat} (h : W.heap[g]? = w.heap[g]?) : W.cell? ⟨g, j, none⟩ = w.cell? ⟨g, j, none⟩ := by simp [World.cell?, h]
theorem FoW.draw {S : Src} {w wr W : World} {gc gp : Nat} {q q' : Nat × Int} {g n cap : Nat} {fs : List Fl} (h : FoW S w wr gc gp q g n cap fs) (hc : CurW 201 S W gc q') (k : wr.grownBy W (some gc)) : FoW S w W gc gp q' g n cap fs := by
  have hg := ownFl_blk h.own
  have h1 := h.gpl
  refine ⟨hc, fun j hj => ?_, ⟨h1.1, h1.2.1, Nat.lt_of_lt_of_le h1.2.2 k.size⟩, h.ne, ownFl_keep h.own (k.block g hg.2 (fun e => by have := Option.some.inj e; omega)), h.few, below_grown h.bel k h1.1 h.bel.size⟩
  rw [cell_keptP (k.block gp h1.2.2 (fun e => by have := Option.some.inj e; omega))]
  exact h.lit j hj
theorem FoW.drew {S : Src} {w wr : World} {gc gp : Nat} {q : Nat × Int} {g n cap : Nat} {fs : List Fl} (h : FoW S w wr gc gp q g n cap fs) : FoW S w wr.drew gc gp q g n cap fs := h.draw (curW_kept h.cur fun _ _ => rfl) ⟨rfl, rfl, rfl, Nat.le_refl _, fun _ _ _ => rfl⟩
theorem FoW.alloc {S : Src} {w wr : World} {gc gp : Nat} {q : Nat × Int} {g n cap : Nat} {fs : List Fl} (h : FoW S w wr gc gp q g n cap fs) (o : Obj) : FoW S w (wr.alloc o) gc gp q g n cap fs :=
  h.draw (curW_below h.cur ((Below.refl wr.heap.size wr).alloc (Nat.le_refl _) _) (curW_lt h.cur)) ⟨rfl, rfl, rfl, by rw [alloc_size]; omega, fun k hk _ => heap_alloc_old wr o hk⟩
theorem FoW.app {S : Src} {w wr W : World} {gc gp : Nat} {q : Nat × Int} {g n cap g' cap' : Nat} {fs : List Fl} {b : Fl} (h : FoW S w wr gc gp q g n cap fs) (ho : OwnFl W (gc + 1) 52 g' (n + 1) cap' (fs ++ [b])) (k : wr.grownBy W (some g)) (hat : g' = g ∨ wr.heap.size ≤ g') (hb : b.1.size ≤ 100 ∧ b.2.size ≤ 100) : FoW S w W gc gp q g' (n + 1) cap' (fs ++ [b]) := by
  have hg := ownFl_blk h.own
  have h1 := h.gpl
  have h2 := h.ne
  refine ⟨curW_kept h.cur (fun j hj => k.block j (by omega) (fun e => by have := Option.some.inj e; omega)), fun j hj => ?_, ⟨h1.1, h1.2.1, Nat.lt_of_lt_of_le h1.2.2 k.size⟩, by omega, ho, fun x hx => ?_, below_grown h.bel k (by omega) h.bel.size⟩
  · rw [cell_keptP (k.block gp h1.2.2 (fun e => by have := Option.some.inj e; omega))]
    exact h.lit j hj
  · rcases List.mem_append.1 hx with hx | hx
    · exact h.few x hx
    · rw [List.mem_singleton.1 hx]
      exact hb
theorem FoW.cell {S : Src} {w wr W : World} {gc gp : Nat} {q : Nat × Int} {g n cap : Nat} {fs : List Fl} (h : FoW S w wr gc gp q g n cap fs) (k : wr.grownBy W (some gc)) {j : Nat} {v : Value} (hv : wr.cell? ⟨gp, j, none⟩ = some v) : W.cell? ⟨gp, j, none⟩ = some v :=
  (cell_keptP (k.block gp h.gpl.2.2 (fun e => by have := Option.some.inj e; have := h.gpl; omega))).trans hv
def FoOut (w : World) (e : Ending) (w' : World) : Prop :=
  ∃ g n cap fs, e = .returned (.slice (some ⟨g, 0, none⟩) n cap) ∧ OwnFl w' w.heap.size 52 g n cap fs ∧ n ≤ 6 ∧ (∀ y ∈ fs, y.1.size ≤ 100 ∧ y.2.size ≤ 100) ∧ Below w.heap.size w w'
theorem tx_small (S : Src) (q : Nat × Int) (m : Int) (h0 : 0 ≤ m) (h1 : m ≤ 100) : (strOfNums (tx S q m).1).size ≤ 100 := by
  have := tx_len S q m h0
  rw [strOfNums_size]
  omega
set_option maxRecDepth 100000 in
set_option maxHeartbeats 6400000 in
theorem drawFilesOk_some (S : Src) (hS : S.ok) (w : World) (hc : CodeW S w) (hl : S.lim ≤ w.heap.size) :
    Calls Try.prog 74 #[.slice S.a S.len S.cap] w (FoOut w) := by
  obtain ⟨i0, hi, hz0, hz1, hz2⟩ := info_parts Try.infoFile
  go_enter Try.func74, Try.ntmps74
  go_wp2_with fail
  refine (l1New_any S hS _ hc hl).mono ?_
  rintro e w1 ⟨rfl, hc1, hb1⟩
  obtain ⟨gc, hgc⟩ : ∃ gc, gc = w.heap.size := ⟨_, rfl⟩
  rw [← hgc] at hc1 ⊢
  have H0 : ∀ o : Obj, (∀ j, j < 5 → ∃ x, ((w1.alloc (.cells #[] 52)).alloc o).cell? ⟨w1.heap.size + 1, j, none⟩ = some (.string x) ∧ x.size ≤ 100) → FoW S w ((w1.alloc (.cells #[] 52)).alloc o) gc (w1.heap.size + 1) (start S) w1.heap.size 0 0 [] := by
    intro o ho
    have b1 : Below w1.heap.size w1 ((w1.alloc (.cells #[] 52)).alloc o) := ((Below.refl _ _).alloc (Nat.le_refl _) _).alloc (by show _ ≤ (w1.heap.push _).size; simp) _
    have hlt := curW_lt hc1
    refine ⟨curW_below hc1 b1 hlt, ho, ⟨by omega, by omega, by rw [alloc_size, alloc_size]; omega⟩, by omega, ?_, fun x hx => by simp at hx, hb1.trans (b1.mono hb1.size)⟩
    exact ownFl_later (ownFl_low (ownFl_nil w1 52) (by omega)) ((Below.refl _ _).alloc (Nat.le_refl _) _)
  have HH0 := hidI H0
  have HG := hidI hgc
  clear H0 hgc hc1 hb1
  go_wp2
  go_loopw [4, 6] (fun o i wr => ∃ (k g n cap : Nat) (q : Nat × Int) (fs : List Fl), k ≤ 5 ∧ i = .int .i64 k ∧ o = .slice (some ⟨g, 0, none⟩) n cap ∧ FoW S w wr gc (w1.heap.size + 1) q g n cap fs ∧ n ≤ k) (fun _ i _ => (5 - intOf i).toNat)
  case atStart =>
    refine ⟨0, _, 0, 0, _, [], by omega, rfl, rfl, HH0.out _ (fun j hj => ?_), Nat.le_refl _⟩
    have e1 : w1.heap.size + 1 = (w1.alloc (.cells #[] 52)).heap.size := (alloc_size _ _).symm
    rw [e1, World.cell?_alloc_new]
    match j, hj with
    | 0, _ | 1, _ | 2, _ | 3, _ | 4, _ => exact ⟨_, rfl, by decide⟩
    | j + 5, hj => omega
  case round =>
    obtain ⟨k, g, n, cap, q, fs, hk, rfl, rfl, hw, hn⟩ := hrel
    have HW := hidI hw
    have hgpl := hw.gpl
    clear hw
    by_cases hlt : k < 5
    · have hlti : (k : Int) < 5 := by omega
      obtain ⟨k1, hk1⟩ : ∃ k1, k1 = k + 1 := ⟨_, rfl⟩
      have ek : (k : Int) + 1 = (k1 : Int) := by omega
      have HK := hidI hk1
      clear hk1
      go_wp2_with fail
      refine (l1Once_any S hS gc q 3 _ HW.out.cur (by omega)).mono ?_
      rintro e w2 ⟨rfl, hc2, hg2⟩
      obtain ⟨q2, hq2⟩ : ∃ q', (bw S q 3).2 = q' := ⟨_, rfl⟩
      rw [hq2] at hc2
      have HW2 := hidI (HW.out.draw hc2 hg2)
      clear hc2 hg2 HW hgpl hq2
      cases ho : ((bw S q 3).1 == 0) with
      | true =>
        go_wp2
        go_roundw
        case rel => exact ⟨k1, g, n, cap, _, fs, by have := HK.out; omega, rfl, rfl, HW2.out, by have := HK.out; omega⟩
        case measure => simp [intOf]; omega
      | false =>
        obtain ⟨x, cx, hxs⟩ := HW2.out.lit k hlt
        have h2 := HW2.out.gpl.2.2
        go_wp2_with fail
        go_region_law (first | (refine step_file rfl (.tmp 20) (.tmp 28) 48 rfl (gc + 1) 52 i0 _ Try.underlying48 hi hz0 hz1 hz2 rfl g n cap fs (by rfl) (by exact (HW3.out.alloc _).own) w3.heap.size (x, strOfNums (tx S q2 5).1) (by rfl) (by exact heap_alloc_new _ _) (by omega) ?_; intro g4 cap4 w4 ho4 hg4 hat4; have HW4 := hidI ((HW3.out.alloc _).app ho4 hg4 hat4 ⟨hxs, tx_small S q2 5 (by omega) (by omega)⟩); clear ho4 hg4 hat4) | ((try go_simp); go_wp2_with (go_at_call 91; refine (l1Text_any S hS gc q2 5 _ HW2.out.drew.cur (by omega) (by omega)).mono ?_; rintro e w3 ⟨rfl, hc3, hg3⟩; have cy := HW2.out.drew.cell hg3 cx; have HW3 := hidI (HW2.out.drew.draw hc3 hg3); have h3 := HW3.out.gpl.2.2; clear hc3 hg3)))
        all_goals
          go_wp2
          go_roundw
          case rel => exact ⟨k1, g4, n + 1, cap4, _, _, by have := HK.out; omega, rfl, rfl, HW4.out, by have := HK.out; omega⟩
          case measure => simp [intOf]; omega
    · have hlti : ¬ (k : Int) < 5 := by omega
      go_wp2_with fail
      refine (l1Once_any S hS gc q 3 _ HW.out.cur (by omega)).mono ?_
      rintro e w2 ⟨rfl, hc2, hg2⟩
      obtain ⟨q2, hq2⟩ : ∃ q', (bw S q 3).2 = q' := ⟨_, rfl⟩
      rw [hq2] at hc2
      have HW2 := hidI (HW.out.draw hc2 hg2)
      clear hc2 hg2 HW hq2
      cases ho : ((bw S q 3).1 == 0) with
      | false =>
        go_wp2
        go_ret
        exact ⟨g, n, cap, fs, rfl, ownFl_low HW2.out.own (by have := HW2.out.gpl; omega), by omega, HW2.out.few, HW2.out.bel⟩
      | true =>
        go_wp2_with fail
        refine (l2Some_some S hS gc q2 _ HW2.out.cur).mono ?_
        rintro e w3 ⟨x, q3, rfl, hxs, hc3, hg3⟩
        have HW3 := hidI (HW2.out.draw hc3 hg3)
        have h3 := HW3.out.gpl.2.2
        clear hc3 hg3 HW2
        go_wp2_with (at_builtin; refine app_file w3 rfl _ _ 48 rfl (gc + 1) 52 i0 _ Try.underlying48 hi hz0 hz1 hz2 rfl g n cap fs (by rfl) HW3.out.own (x, { data := #[] }) (by rfl) (by omega) ?_; intro g4 cap4 w4 ho4 hg4 hat4)
        go_ret
        have HW4 := HW3.out.app ho4 hg4 (by omega) ⟨hxs, Nat.zero_le _⟩
        exact ⟨g4, n + 1, cap4, _, rfl, ownFl_low HW4.own (by have := HW4.gpl; omega), by omega, HW4.few, HW4.bel⟩
theorem drawShowFiles_some (S : Src) (hS : S.ok) (w : World) (hc : CodeW S w) (hl : S.lim ≤ w.heap.size) :
    Calls Try.prog 28 #[.slice S.a S.len S.cap] w (FoOut w) := by
  go_enter Try.func28, Try.ntmps28
  go_wp2_with fail
  refine (drawFilesOk_some S hS _ hc hl).mono ?_
  rintro e w1 ⟨g, n, cap, fs, rfl, h⟩
  go_wp2
  go_ret
  exact ⟨g, n, cap, fs, rfl, h⟩
end Go.Proofs.Ytdbpknmoacjodaa
namespace Go.Proofs.Ytdbpknmoacjodaa
open Go.RowKit Go.PlainAid

theorem spoil_e {S : Src} {q : Nat × Int} {s : ByteArray} (h : s.size = 0) : spoil S q s = (strOfNums (tx S q 3).1, (tx S q 3).2) := by rw [spoil, if_pos h]
theorem spoil_0 {S : Src} {q : Nat × Int} {s : ByteArray} {k : Nat} (h : s.size ≠ 0) (hk : (bw S q s.size).1 = k) (hm : (bw S (bw S q s.size).2 4).1 = 0) : spoil S q s = (s.extract 0 k ++ s.extract (k + 1) s.size, (bw S (bw S q s.size).2 4).2) := by
  rw [spoil, if_neg h, if_pos hm, hk]; rfl
theorem spoil_1 {S : Src} {q : Nat × Int} {s : ByteArray} {k : Nat} (h : s.size ≠ 0) (hk : (bw S q s.size).1 = k) (hm : (bw S (bw S q s.size).2 4).1 = 1) : spoil S q s = (s.extract 0 k ++ strOfNums [(cb S (bw S (bw S q s.size).2 4).2).1] ++ s.extract k s.size, (cb S (bw S (bw S q s.size).2 4).2).2) := by
  rw [spoil, if_neg h, if_neg (by omega), if_pos hm, hk]; rfl
theorem spoil_2 {S : Src} {q : Nat × Int} {s : ByteArray} {k : Nat} (h : s.size ≠ 0) (hk : (bw S q s.size).1 = k) (hm : (bw S (bw S q s.size).2 4).1 = 2) : spoil S q s = (s.extract 0 k, (bw S (bw S q s.size).2 4).2) := by
  rw [spoil, if_neg h, if_neg (by omega), if_neg (by omega), if_pos hm, hk]; rfl
theorem spoil_3 {S : Src} {q : Nat × Int} {s : ByteArray} {k : Nat} (h : s.size ≠ 0) (hk : (bw S q s.size).1 = k) (h0 : (bw S (bw S q s.size).2 4).1 ≠ 0) (h1 : (bw S (bw S q s.size).2 4).1 ≠ 1) (h2 : (bw S (bw S q s.size).2 4).1 ≠ 2) :
    spoil S q s = (s.extract 0 k ++ strOfNums [IntKind.u8.wrap (bits .xor .i64 (bt s k) (1 + (bw S (bw S (bw S q s.size).2 4).2 255).1))] ++ s.extract (k + 1) s.size, (bw S (bw S (bw S q s.size).2 4).2 255).2) := by
  rw [spoil, if_neg h, if_neg h0, if_neg h1, if_neg h2, hk]; rfl

set_option maxHeartbeats 3200000 in
theorem l1Spoil_any (S : Src) (hS : S.ok) (g : Nat) (q : Nat × Int) (s : ByteArray) (w : World) (hc : CurW 201 S w g q) (hs : s.size ≤ 100000) :
    Calls Try.prog 87 #[.pointer (some ⟨g, 0, none⟩), .string s] w fun e w' => e = .returned (.string (spoil S q s).1) ∧ CurW 201 S w' g (spoil S q s).2 ∧ w.grownBy w' (some g) := by
  by_cases h0 : s.size = 0
  · have HS : Hid (spoil S q s = (strOfNums (tx S q 3).1, (tx S q 3).2)) := spoil_e h0
    have hq : ((s.size : Int) == 0) = true := by rw [h0]; rfl
    clear h0
    go_enter Try.func87, Try.ntmps87
    go_wp2_with fail
    refine (l1Text_any S hS g q 3 _ hc (by omega) (by omega)).mono ?_
    rintro e w1 ⟨rfl, hc1, hg1⟩
    go_wp2
    go_ret
    exact ⟨ret_str (by rw [HS.out]), by rw [HS.out]; exact hc1, hg1⟩
  · have hq : ((s.size : Int) == 0) = false := beq_eq_false_iff_ne.2 (by omega)
    have hbk := bw_bd S q s.size (by omega)
    obtain ⟨k, hk⟩ : ∃ k : Nat, (bw S q s.size).1 = k := ⟨(bw S q s.size).1.toNat, by omega⟩
    have HK : Hid ((bw S q s.size).1 = k) := hk
    have hks : k < s.size := by omega
    have hbm := bw_bd S (bw S q s.size).2 4 (by omega)
    have hb := get_bt s
    have hb0 := bt_nonneg s k
    have hb1 := bt_le s k
    have e1 : IntKind.i64.wrap ((k : Int) + 1) = (k : Int) + 1 := IntWalk.i64_in _ ⟨by omega, by omega⟩
    have e2 : IntKind.i64.wrap (bt s k) = bt s k := IntWalk.i64_in _ ⟨by omega, by omega⟩
    have l1 : (0 : Int) ≤ (k : Int) := by omega
    have l2 : (k : Int) ≤ s.size := by omega
    have l3 : (0 : Int) ≤ (k : Int) + 1 := by omega
    have l4 : (k : Int) + 1 ≤ s.size := by omega
    have z1 : (s.extract 0 k).size ≤ 100000 := by simp; omega
    have z2 : (s.extract (k + 1) s.size).size ≤ 100000 := by simp; omega
    have z3 : (s.extract k s.size).size ≤ 100000 := by simp; omega
    have hst := fun (w : World) (x : Int) => run_string_one (P := Try.prog) (src := 59) (dst := 9) Try.underlying59 Try.underlying5 Try.underlying9 w x
    have hone := fun x => strOfNums_size [x]
    have y1 : ¬ (9223372036854775807 < min k s.size + 1) := by omega
    have y2 : ¬ (9223372036854775807 < min k s.size + 1 + (s.size - k)) := by omega
    have y3 : ¬ (9223372036854775807 < min k s.size + 1 + (s.size - (k + 1))) := by omega
    clear hbk
    by_cases m0 : (bw S (bw S q s.size).2 4).1 = 0
    · have HS : Hid (spoil S q s = (s.extract 0 k ++ s.extract (k + 1) s.size, (bw S (bw S q s.size).2 4).2)) := spoil_0 h0 hk m0
      have q0 : ((bw S (bw S q s.size).2 4).1 == 0) = true := by simpa using m0
      clear hk m0 h0
      go_enter Try.func87, Try.ntmps87
      go_wp2_with fail
      refine (l1Below_any S hS g q s.size _ hc (by omega)).mono ?_
      rintro e w1 ⟨rfl, hc1, hg1⟩
      rw [HK.out]
      go_wp2_with fail
      refine (l1Below_any S hS g _ 4 _ hc1 (by omega)).mono ?_
      rintro e w2 ⟨rfl, hc2, hg2⟩
      go_wp2
      go_quiet (fail)
      go_wp2
      go_ret
      exact ⟨ret_str (by rw [HS.out]), by rw [HS.out]; exact curW_drewN hc2 _, grown_drewN (grown_trans hg1 hg2) _⟩
    · have q0 : ((bw S (bw S q s.size).2 4).1 == 0) = false := by simpa using m0
      by_cases m1 : (bw S (bw S q s.size).2 4).1 = 1
      · have HS : Hid (spoil S q s = (s.extract 0 k ++ strOfNums [(cb S (bw S (bw S q s.size).2 4).2).1] ++ s.extract k s.size, (cb S (bw S (bw S q s.size).2 4).2).2)) := spoil_1 h0 hk m1
        have q1 : ((bw S (bw S q s.size).2 4).1 == 1) = true := by simpa using m1
        have hcb := cb_bd S (bw S (bw S q s.size).2 4).2
        have e3 : IntKind.u8.wrap (cb S (bw S (bw S q s.size).2 4).2).1 = (cb S (bw S (bw S q s.size).2 4).2).1 := IntWalk.u8_in _ hcb
        have z4 : (s.extract 0 k ++ strOfNums [(cb S (bw S (bw S q s.size).2 4).2).1]).size ≤ 100001 := by rw [ByteArray.size_append, strOfNums_size]; simp; omega
        clear hk m0 m1 h0
        go_enter Try.func87, Try.ntmps87
        go_wp2_with fail
        refine (l1Below_any S hS g q s.size _ hc (by omega)).mono ?_
        rintro e w1 ⟨rfl, hc1, hg1⟩
        rw [HK.out]
        go_wp2_with fail
        refine (l1Below_any S hS g _ 4 _ hc1 (by omega)).mono ?_
        rintro e w2 ⟨rfl, hc2, hg2⟩
        go_wp2
        have hcd : CurW 201 S w2.drew g (bw S (bw S q s.size).2 4).2 := curW_kept hc2 fun _ _ => rfl
        have hgd : w.grownBy w2.drew (some g) := grown_drewN (grown_trans hg1 hg2) 1
        have hgs := curW_lt hcd
        go_region_law (go_simp; go_wp2_with (go_at_call 149; refine (l1Byte_any S hS g _ _ hcd).mono ?_; rintro e w3 ⟨rfl, hc3, hg3⟩))
        all_goals
          go_wp2
          go_ret
          refine ⟨ret_str (by rw [HS.out]), ?_, grown_below (grown_trans hgd hg3) ((Below.refl w3.heap.size w3).alloc (Nat.le_refl _) _) (Nat.le_trans hgd.size hg3.size)⟩
          rw [HS.out]
          exact curW_below hc3 ((Below.refl w3.heap.size w3).alloc (Nat.le_refl _) _) (Nat.lt_of_lt_of_le hgs hg3.size)
      · have q1 : ((bw S (bw S q s.size).2 4).1 == 1) = false := by simpa using m1
        by_cases m2 : (bw S (bw S q s.size).2 4).1 = 2
        · have HS : Hid (spoil S q s = (s.extract 0 k, (bw S (bw S q s.size).2 4).2)) := spoil_2 h0 hk m2
          have q2 : ((bw S (bw S q s.size).2 4).1 == 2) = true := by simpa using m2
          clear hk m0 m1 m2 h0
          go_enter Try.func87, Try.ntmps87
          go_wp2_with fail
          refine (l1Below_any S hS g q s.size _ hc (by omega)).mono ?_
          rintro e w1 ⟨rfl, hc1, hg1⟩
          rw [HK.out]
          go_wp2_with fail
          refine (l1Below_any S hS g _ 4 _ hc1 (by omega)).mono ?_
          rintro e w2 ⟨rfl, hc2, hg2⟩
          go_wp2
          go_ret
          exact ⟨ret_str (by rw [HS.out]), by rw [HS.out]; exact hc2, grown_trans hg1 hg2⟩
        · have q2 : ((bw S (bw S q s.size).2 4).1 == 2) = false := by simpa using m2
          have HS : Hid (spoil S q s = (s.extract 0 k ++ strOfNums [IntKind.u8.wrap (bits .xor .i64 (bt s k) (1 + (bw S (bw S (bw S q s.size).2 4).2 255).1))] ++ s.extract (k + 1) s.size, (bw S (bw S (bw S q s.size).2 4).2 255).2)) := spoil_3 h0 hk m0 m1 m2
          have hcb := bw_bd S (bw S (bw S q s.size).2 4).2 255 (by omega)
          have e3 : IntKind.i64.wrap (1 + (bw S (bw S (bw S q s.size).2 4).2 255).1) = 1 + (bw S (bw S (bw S q s.size).2 4).2 255).1 := IntWalk.i64_in _ ⟨by omega, by omega⟩
          have z4 : (s.extract 0 k ++ strOfNums [IntKind.u8.wrap (bits .xor .i64 (bt s k) (1 + (bw S (bw S (bw S q s.size).2 4).2 255).1))]).size ≤ 100001 := by rw [ByteArray.size_append, strOfNums_size]; simp; omega
          clear hk m0 m1 m2 h0
          go_enter Try.func87, Try.ntmps87
          go_wp2_with fail
          refine (l1Below_any S hS g q s.size _ hc (by omega)).mono ?_
          rintro e w1 ⟨rfl, hc1, hg1⟩
          rw [HK.out]
          go_wp2_with fail
          refine (l1Below_any S hS g _ 4 _ hc1 (by omega)).mono ?_
          rintro e w2 ⟨rfl, hc2, hg2⟩
          go_wp2
          have hcd : CurW 201 S w2.drew g (bw S (bw S q s.size).2 4).2 := curW_kept hc2 fun _ _ => rfl
          have hgd : w.grownBy w2.drew (some g) := grown_drewN (grown_trans hg1 hg2) 1
          have hgs := curW_lt hcd
          go_region_law (go_simp; go_wp2_with (go_at_call 146; refine (l1Below_any S hS g _ 255 _ hcd (by omega)).mono ?_; rintro e w3 ⟨rfl, hc3, hg3⟩))
          all_goals
            go_wp2
            go_ret
            refine ⟨ret_str (by rw [HS.out]), ?_, grown_below (grown_trans hgd hg3) ((Below.refl w3.heap.size w3).alloc (Nat.le_refl _) _) (Nat.le_trans hgd.size hg3.size)⟩
            rw [HS.out]
            exact curW_below hc3 ((Below.refl w3.heap.size w3).alloc (Nat.le_refl _) _) (Nat.lt_of_lt_of_le hgs hg3.size)

end Go.Proofs.Ytdbpknmoacjodaa
namespace Go.Proofs.Ytdbpknmoacjodaa
open Go.RowKit Go.PlainAid

theorem spoil_le (S : Src) (q : Nat × Int) (s : ByteArray) : (spoil S q s).1.size ≤ s.size + 4 := by
  have h3 := tx_len S q 3 (by omega)
  unfold spoil
  split
  · simp only [strOfNums_size]; omega
  · split
    · simp only [ByteArray.size_append, ByteArray.size_extract]; omega
    · split
      · simp only [ByteArray.size_append, ByteArray.size_extract, strOfNums_size, List.length_cons, List.length_nil]; omega
      · split
        · simp only [ByteArray.size_extract]; omega
        · simp only [ByteArray.size_append, ByteArray.size_extract, strOfNums_size, List.length_cons, List.length_nil]; omega
theorem l1Size_some (S : Src) (hS : S.len ≤ 9223372036854775807) (most : Int) (h0 : 2 ≤ most) (h1 : most ≤ 1000) (w : World) :
    Calls Try.prog 98 #[.slice S.a S.len S.cap, .int .i64 most] w fun e w' => (∃ r : Nat, e = .returned (.int .i64 (r : Int)) ∧ (r : Int) ≤ most) ∧ w' = w := by
  go_enter Try.func98, Try.ntmps98
  by_cases h : most < 2 + (S.len : Int) / 20
  · go_wp2
    go_ret
    exact ⟨⟨most.toNat, by rw [Int.toNat_of_nonneg (by omega)]; rfl, by omega⟩, rfl⟩
  · go_wp2
    go_ret
    exact ⟨⟨(2 + (S.len : Int) / 20).toNat, by rw [Int.toNat_of_nonneg (by omega)]; rfl, by omega⟩, rfl⟩
set_option maxRecDepth 100000 in
set_option maxHeartbeats 6400000 in
theorem l4Text_some (S : Src) (hS : S.ok) (g : Nat) (most : Nat) (hm : most ≤ 10) (scr : Bool) (q0 : Nat × Int) (w0 : World) (hc : CurW 201 S w0 g q0) :
    Calls Try.prog 158 #[.pointer (some ⟨g, 0, none⟩), .int .i64 (most : Int), .bool scr] w0 (StrOut S g 20000 w0) := by
  have HC0 := hidI hc
  have HG0 : Hid (w0.grownBy w0 (some g)) := ⟨rfl, rfl, rfl, Nat.le_refl _, fun _ _ _ => rfl⟩
  clear hc
  go_enter Try.func158, Try.ntmps158
  go_wp2_with fail
  refine (l1Below_any S hS g q0 ((most : Int) + 1) _ HC0.out (by omega)).mono ?_
  rintro e w1 ⟨rfl, hc, hg⟩
  have hbd := bw_bd S q0 ((most : Int) + 1) (by omega)
  obtain ⟨k1, hk⟩ : ∃ k : Nat, (bw S q0 ((most : Int) + 1)).1 = k := ⟨(bw S q0 ((most : Int) + 1)).1.toNat, by omega⟩
  obtain ⟨q1, hq⟩ : ∃ q', (bw S q0 ((most : Int) + 1)).2 = q' := ⟨_, rfl⟩
  rw [hk] at hbd ⊢
  rw [hq] at hc
  have HC1 := hidI hc
  have HG1 := hidI (grown_trans HG0.out hg)
  have kb : k1 ≤ 10 := by omega
  clear hc hg hbd hk hq
  go_wp2
  go_loopg [7, 8] k1 (fun k sv nv wr => ∃ (x : ByteArray) (q : Nat × Int), nv = .int .i64 (k : Int) ∧ sv = .string x ∧ k ≤ 10 ∧ x.size + 1501 * k ≤ 15010 ∧ CurW 201 S wr g q ∧ w0.grownBy wr (some g))
  case atStart => exact ⟨_, q1, rfl, rfl, kb, by have : ({ data := #[] } : ByteArray).size = 0 := rfl; omega, HC1.out, HG1.out⟩
  case round =>
    obtain ⟨x, q, rfl, rfl, hk, hx, hcr, hgr⟩ := hrel
    clear HC1 HG1
    have HC1 := hidI hcr
    have HG1 := hidI hgr
    clear hcr hgr
    by_cases hpos : 0 < gk
    · have hpi : 0 < (gk : Int) := by omega
      go_wp2_with fail
      refine (l4Line_some S hS g scr q _ HC1.out).mono ?_
      rintro e w2 ⟨x2, q2, rfl, z2, hc, hg⟩
      have HC2 := hidI hc
      have HG2 := hidI (grown_trans HG1.out hg)
      clear hc hg
      have hz : (x ++ x2 ++ ({ data := #[10] } : ByteArray)).size = x.size + x2.size + 1 := by rw [ByteArray.size_append, ByteArray.size_append]; rfl
      have hz1 : (x ++ x2).size = x.size + x2.size := ByteArray.size_append
      have ek : (gk : Int) - 1 = ((gk - 1 : Nat) : Int) := by omega
      go_wp2
      go_roundg (gk - 1)
      case rel => exact ⟨_, q2, rfl, rfl, by omega, by omega, HC2.out, HG2.out⟩
      case measure => omega
    · have hpi : ¬ 0 < (gk : Int) := by omega
      go_wp2_with fail
      refine (l1Once_any S hS g _ 6 _ HC1.out (by omega)).mono ?_
      rintro e w2 ⟨rfl, hc, hg⟩
      obtain ⟨q2, hq⟩ : ∃ q', (bw S q 6).2 = q' := ⟨_, rfl⟩
      rw [hq] at hc
      have HC2 := hidI hc
      have HG2 := hidI (grown_trans HG1.out hg)
      clear hc hg hq
      generalize ((bw S q 6).1 == 0) = b
      cases b with
      | true =>
        go_wp2_with fail
        refine (l1Spoil_any S hS g q2 x _ HC2.out (by omega)).mono ?_
        rintro e w3 ⟨rfl, hc, hg⟩
        have hs := spoil_le S q2 x
        have HC3 := hidI hc
        have HG3 := hidI (grown_trans HG2.out hg)
        clear hc hg
        generalize spoil S q2 x = y at *
        go_wp2
        go_ret
        exact ⟨y.1, y.2, rfl, by omega, HC3.out, HG3.out⟩
      | false =>
        go_wp2_with fail
        refine (l1Once_any S hS g _ 15 _ HC2.out (by omega)).mono ?_
        rintro e w3 ⟨rfl, hc, hg⟩
        obtain ⟨q3, hq⟩ : ∃ q', (bw S q2 15).2 = q' := ⟨_, rfl⟩
        rw [hq] at hc
        have HC3 := hidI hc
        have HG3 := hidI (grown_trans HG2.out hg)
        clear hc hg hq
        generalize ((bw S q2 15).1 == 0) = b
        cases b with
        | true =>
          go_wp2_with fail
          refine (pick_new S hS g _ 100 [{ data := #[105, 109, 112, 111, 114, 116, 32, 100, 101, 102, 97, 117, 108, 116, 32, 102, 114, 111, 109, 32, 34, 120, 34, 59] }, { data := #[101, 120, 112, 111, 114, 116, 32, 123, 32, 100, 101, 102, 97, 117, 108, 116, 32, 125, 59] }, { data := #[105, 109, 112, 111, 114, 116, 32, 123, 32, 100, 101, 102, 97, 117, 108, 116, 32, 125, 32, 102, 114, 111, 109, 32, 34, 120, 34, 59] }, { data := #[108, 101, 116, 32, 108, 101, 116, 32, 61, 32, 49, 59] }, { data := #[112, 114, 105, 110, 116, 40, 49, 59] }, { data := #[97, 32, 61, 32, 59] }, { data := #[101, 120, 112, 111, 114, 116] }, { data := #[102, 97, 105, 108, 32, 49, 59] }, { data := #[108, 101, 116, 32, 117, 110, 100, 101, 102, 32, 61, 32, 49, 59] }, { data := #[105, 109, 112, 111, 114, 116, 32, 123, 32, 97, 32, 97, 115, 32, 100, 101, 102, 97, 117, 108, 116, 32, 125, 32, 102, 114, 111, 109, 32, 34, 120, 34, 59] }, { data := #[112, 114, 105, 110, 116, 40, 40, 40, 40, 40, 40, 40, 40, 40, 40, 40, 40, 40, 40, 40, 40, 40, 40, 40, 40, 40, 40, 49, 41, 41, 41, 41, 41, 41, 41, 41, 41, 41, 41, 41, 41, 41, 41, 41, 41, 41, 41, 41, 41, 41, 59] }] _ HC3.out (by simp) (by simp) (by intro x hx; simp only [List.mem_cons, List.not_mem_nil, or_false] at hx; rcases hx with rfl | rfl | rfl | rfl | rfl | rfl | rfl | rfl | rfl | rfl | rfl <;> decide)).mono ?_
          rintro e w4 ⟨x4, q4, rfl, z4, hc, hg⟩
          have HC4 := hidI hc
          have HG4 := hidI (grown_trans HG3.out hg)
          clear hc hg
          have hz : (x ++ x4).size = x.size + x4.size := ByteArray.size_append
          go_wp2
          go_ret
          exact ⟨_, q4, rfl, by omega, HC4.out, HG4.out⟩
        | false =>
          go_wp2
          go_ret
          exact ⟨x, q3, rfl, by omega, HC3.out, HG3.out⟩
end Go.Proofs.Ytdbpknmoacjodaa
