/-
  What the cursor's functions of the specification tell, and what they leave of it: l1New, l1Byte, l1Below, l1Once: the walks.
  What spec.l1Pick tells: one of the texts, none of them long: the walk.
  Paths, and what Clean makes of them, as plain functions; a row of texts in memory. No program is spoken of.
  A row of files in memory, each a path and a text, and when files are right: plain facts. No program is spoken of.
  The directories that a path is in, as a plain function. No program is spoken of.
-/
import Derived.Test.YtemfbibeoibpeaaProg
import Derived.Deep.QuietTactic
import Derived.BigQuiet
import Derived.Test.YtemfbibeoibpeaaClDrawMath
namespace Go.Proofs.Ytemfbibeoibpeaa
open Go.RowKit Go.PlainAid

theorem curW_drewN {T : TypeId} {S : Src} {w : World} {g : Nat} {q : Nat × Int} (h : CurW T S w g q) (n : Nat) : CurW T S (w.drewN n) g q := curW_kept h fun _ _ => rfl

set_option maxHeartbeats 1600000 in
theorem l1Byte_any (S : Src) (hS : S.ok) (g : Nat) (q : Nat × Int) (w : World) (hc : CurW 65 S w g q) :
    Calls Try.prog 57 #[.pointer (some ⟨g, 0, none⟩)] w fun e w' => e = .returned (.int .i64 (cb S q).1) ∧ CurW 65 S w' g (cb S q).2 ∧ w.grownBy w' (some g) := by
  obtain ⟨i, h⟩ := q
  obtain ⟨hc0, hc1, hc2, hf1, hf2⟩ := curW_cells hc
  have hlen := hS.1
  have hbh := bh_is
  have hbx := bx_is
  simp only at hc1 hc2
  by_cases hi : i < S.len
  · obtain ⟨b, off, ha, hb, hcell⟩ := hc.2.2.2 i hi
    have hbg : b < g := Nat.lt_of_lt_of_le hb hc.2.1
    have hz := hS.2 i
    rw [ha] at hc0
    have HA := cb_yes (h := h) hi
    have hx := and255 (bits .xor .i64 (bh h / 8589934592) (bh h / 35184372088832))
    rw [bx_is] at hx
    have HC : Hid (CurW 65 S w g (i, h)) := hc
    have HA' : Hid (cb S (i, h) = (bits .and .i64 (bx h + S.Z i) 255, (i + 1, bh h))) := HA
    clear hc HA
    go_enter Try.func57, Try.ntmps57
    go_wp2
    go_quiet (fail)
    go_wp2
    go_quiet (fail)
    go_wp2
    go_quiet (fail)
    go_wp2
    go_ret
    refine ⟨ret_int (by rw [HA'.out]), ?_, grown_setCell (grown_drewN (grown_setCell (World.grownBy.refl _ _) _) _) _⟩
    rw [HA'.out]
    exact curW_i (curW_drewN (curW_h HC.out _) _) (i + 1) (by omega)
  · have HC : Hid (CurW 65 S w g (i, h)) := hc
    have HA' : Hid (cb S (i, h) = (bx h, (i, bh h))) := cb_no hi
    clear hc
    go_enter Try.func57, Try.ntmps57
    go_wp2
    go_quiet (fail)
    go_wp2
    go_quiet (fail)
    go_wp2
    go_ret
    exact ⟨ret_int (by rw [HA'.out]), by rw [HA'.out]; exact curW_drewN (curW_drewN (curW_h HC.out _) _) _, grown_drewN (grown_drewN (grown_setCell (World.grownBy.refl _ _) _) _) _⟩

theorem bw_le {S : Src} {q : Nat × Int} {n : Int} (h : n ≤ 0) : bw S q n = (0, q) := by rw [bw, if_pos h]
theorem bw_mid {S : Src} {q : Nat × Int} {n : Int} (h : ¬ n ≤ 0) (k : n ≤ 256) : bw S q n = ((cb S q).1 % n, (cb S q).2) := by rw [bw, if_neg h, if_pos k]
theorem bw_big {S : Src} {q : Nat × Int} {n : Int} (h : ¬ n ≤ 0) (k : ¬ n ≤ 256) : bw S q n = (((cb S q).1 * 16777216 + (cb S (cb S q).2).1 * 65536 + (cb S (cb S (cb S q).2).2).1 * 256 + (cb S (cb S (cb S (cb S q).2).2).2).1) % n, (cb S (cb S (cb S (cb S q).2).2).2).2) := by rw [bw, if_neg h, if_neg k]

set_option maxHeartbeats 1600000 in
theorem l1Below_any (S : Src) (hS : S.ok) (g : Nat) (q : Nat × Int) (n : Int) (w : World) (hc : CurW 65 S w g q) (_ : n ≤ 9223372036854775807) :
    Calls Try.prog 45 #[.pointer (some ⟨g, 0, none⟩), .int .i64 n] w fun e w' => e = .returned (.int .i64 (bw S q n).1) ∧ CurW 65 S w' g (bw S q n).2 ∧ w.grownBy w' (some g) := by
  by_cases h0 : n ≤ 0
  · rw [bw_le h0]
    go_enter Try.func45, Try.ntmps45
    go_wp2
    go_ret
    exact ⟨rfl, hc, World.grownBy.refl _ _⟩
  · by_cases h1 : n ≤ 256
    · rw [bw_mid h0 h1]
      have hb := cb_bd S q
      go_enter Try.func45, Try.ntmps45
      go_wp2_with fail
      refine (l1Byte_any S hS g q _ hc).mono ?_
      rintro e w1 ⟨rfl, hc1, hg1⟩
      go_wp2
      go_ret
      exact ⟨rfl, hc1, hg1⟩
    · rw [bw_big h0 h1]
      have hb1 := cb_bd S q
      have hb2 := cb_bd S (cb S q).2
      have hb3 := cb_bd S (cb S (cb S q).2).2
      have hb4 := cb_bd S (cb S (cb S (cb S q).2).2).2
      go_enter Try.func45, Try.ntmps45
      go_wp2_with fail
      refine (l1Byte_any S hS g q _ hc).mono ?_
      rintro e w1 ⟨rfl, hc1, hg1⟩
      go_wp2_with fail
      refine (l1Byte_any S hS g _ _ hc1).mono ?_
      rintro e w2 ⟨rfl, hc2, hg2⟩
      go_wp2_with fail
      refine (l1Byte_any S hS g _ _ hc2).mono ?_
      rintro e w3 ⟨rfl, hc3, hg3⟩
      go_wp2_with fail
      refine (l1Byte_any S hS g _ _ hc3).mono ?_
      rintro e w4 ⟨rfl, hc4, hg4⟩
      go_wp2
      go_ret
      exact ⟨rfl, hc4, grown_trans (grown_trans (grown_trans hg1 hg2) hg3) hg4⟩

set_option maxHeartbeats 800000 in
theorem l1Once_any (S : Src) (hS : S.ok) (g : Nat) (q : Nat × Int) (n : Int) (w : World) (hc : CurW 65 S w g q) (hn : n ≤ 9223372036854775807) :
    Calls Try.prog 29 #[.pointer (some ⟨g, 0, none⟩), .int .i64 n] w fun e w' => e = .returned (.bool ((bw S q n).1 == 0)) ∧ CurW 65 S w' g (bw S q n).2 ∧ w.grownBy w' (some g) := by
  go_enter Try.func29, Try.ntmps29
  go_wp2_with fail
  refine (l1Below_any S hS g q n _ hc hn).mono ?_
  rintro e w1 ⟨rfl, hc1, hg1⟩
  go_wp2
  go_ret
  exact ⟨rfl, hc1, hg1⟩

theorem and30 (y : Int) : 0 ≤ bits .and .i64 y 1073741823 ∧ bits .and .i64 y 1073741823 ≤ 1073741823 := by
  have e : bits .and .i64 y 1073741823 = IntKind.i64.wrap (((BitVec.ofInt 64 y &&& BitVec.ofInt 64 1073741823).toNat : Nat) : Int) := rfl
  have h : (BitVec.ofInt 64 y &&& BitVec.ofInt 64 1073741823).toNat ≤ 1073741823 := by
    rw [BitVec.toNat_and]
    exact Nat.and_le_right
  rw [e, IntKind.wrap_i64]
  omega
theorem newH_bd (S : Src) (hS : S.ok) (k : Nat) : 0 ≤ newH S k ∧ newH S k ≤ 1073741823 := by
  cases k with
  | zero => have := hS.1; simp only [newH]; omega
  | succ k => exact and30 _

set_option maxHeartbeats 1600000 in
set_option maxRecDepth 100000 in
theorem l1New_any (S : Src) (hS : S.ok) (w : World) (hc : CodeW S w) (hl : S.lim ≤ w.heap.size) :
    Calls Try.prog 28 #[.slice S.a S.len S.cap] w fun e w' => e = .returned (.pointer (some ⟨w.heap.size, 0, none⟩)) ∧ CurW 65 S w' w.heap.size (start S) ∧ Below w.heap.size w w' := by
  have hlen := hS.1
  by_cases h0 : 0 < S.len
  · obtain ⟨b, off, ha, hb, hcell⟩ := hc 0 h0
    have hcells : ∀ j, j < S.len → w.cell? ⟨b, off + j, none⟩ = some (.int .u8 (S.Z j)) := by
      intro j hj
      obtain ⟨b', off', ha', hb', hcell'⟩ := hc j hj
      rw [ha] at ha'
      simp only [Option.some.injEq, Addr.mk.injEq, and_true] at ha'
      rw [ha'.1, ha'.2]
      exact hcell'
    rw [ha]
    go_enter Try.func28, Try.ntmps28
    go_wp2
    go_loop [3, 4] (fun h i => ∃ k : Nat, k ≤ S.len ∧ k ≤ 4000 ∧ i = .int .i64 k ∧ h = .int .i64 (newH S k)) (fun _ i => (4000 - intOf i).toNat)
    case atStart => exact ⟨0, by omega, by omega, rfl, rfl⟩
    case round =>
      obtain ⟨k, hk, hk4, rfl, rfl⟩ := hrel
      have hn := newH_bd S hS k
      have hz := hS.2 k
      by_cases hlt : k < S.len ∧ k < 4000
      · obtain ⟨hl1, hl2⟩ := hlt
        have hck := hcells k hl1
        clear hcells
        go_wp2
        go_round
        case rel => exact ⟨k + 1, by omega, by omega, by go_num, rfl⟩
        case measure => simp [intOf]; omega
      · have HS : Hid (start S = (0, newH S k)) := by
          show start S = _
          rw [start, show min S.len 4000 = k from by omega]
        clear hcells
        by_cases hks : k < S.len
        all_goals
          go_wp2
          go_ret
          refine ⟨rfl, ?_, (Below.refl _ _).alloc (Nat.le_refl _) _⟩
          rw [HS.out]
          refine ⟨?_, hl, by simp, codeW_below hc ((Below.refl w.heap.size w).alloc (Nat.le_refl _) _) hl⟩
          rw [heap_alloc_new, ha]
          rfl
  · have HS : Hid (start S = (0, newH S 0)) := by
      show start S = _
      rw [start, show min S.len 4000 = 0 from by omega]
    go_enter Try.func28, Try.ntmps28
    go_wp2
    go_loop [3, 4] (fun h i => i = .int .i64 0 ∧ h = .int .i64 (newH S 0)) (fun _ _ => 0)
    case atStart => exact ⟨rfl, rfl⟩
    case round =>
      obtain ⟨rfl, rfl⟩ := hrel
      go_wp2
      go_ret
      refine ⟨rfl, ?_, (Below.refl _ _).alloc (Nat.le_refl _) _⟩
      rw [HS.out]
      refine ⟨?_, hl, by simp, codeW_below hc ((Below.refl w.heap.size w).alloc (Nat.le_refl _) _) hl⟩
      rw [heap_alloc_new]
      rfl
end Go.Proofs.Ytemfbibeoibpeaa
namespace Go.Proofs.Ytemfbibeoibpeaa
open Go.RowKit Go.PlainAid

set_option maxHeartbeats 800000 in
theorem l1Pick_le (S : Src) (hS : S.ok) (g : Nat) (q : Nat × Int) (b m N : Nat) (w : World) (hc : CurW 65 S w g q) (hm : 1 ≤ m) (hm2 : m ≤ 1000)
    (hbw : b < w.heap.size) (hbg : b ≠ g) (hcell : ∀ j, j < m → ∃ x, w.cell? ⟨b, j, none⟩ = some (.string x) ∧ x.size ≤ N) :
    Calls Try.prog 30 #[.pointer (some ⟨g, 0, none⟩), .slice (some ⟨b, 0, none⟩) m m] w fun e w' => ∃ x q', e = .returned (.string x) ∧ x.size ≤ N ∧ CurW 65 S w' g q' ∧ w.grownBy w' (some g) := by
  have hbd := bw_bd S q m (by omega)
  go_enter Try.func30, Try.ntmps30
  go_wp2_with fail
  refine (l1Below_any S hS g q m _ hc (by omega)).mono ?_
  rintro e w1 ⟨rfl, hc1, hg1⟩
  obtain ⟨x, hx, hxs⟩ := hcell (bw S q m).1.toNat (by omega)
  have hcl : w1.cell? ⟨b, (bw S q m).1.toNat, none⟩ = some (.string x) := by
    rw [← hx]
    exact World.cell?_of_block (w := w) (a := ⟨b, _, none⟩) (hg1.block b hbw (by simpa using hbg))
  have HC : Hid (CurW 65 S w1 g (bw S q m).2) := hc1
  clear hcell hc hc1
  go_wp2
  go_ret
  exact ⟨x, _, rfl, hxs, HC.out, hg1⟩
theorem l1Pick_some (S : Src) (hS : S.ok) (g : Nat) (q : Nat × Int) (b m : Nat) (w : World) (hc : CurW 65 S w g q) (hm : 1 ≤ m) (hm2 : m ≤ 1000)
    (hbw : b < w.heap.size) (hbg : b ≠ g) (hcell : ∀ j, j < m → ∃ x, w.cell? ⟨b, j, none⟩ = some (.string x) ∧ x.size ≤ 100) :
    Calls Try.prog 30 #[.pointer (some ⟨g, 0, none⟩), .slice (some ⟨b, 0, none⟩) m m] w fun e w' => ∃ x q', e = .returned (.string x) ∧ x.size ≤ 100 ∧ CurW 65 S w' g q' ∧ w.grownBy w' (some g) := l1Pick_le S hS g q b m 100 w hc hm hm2 hbw hbg hcell
end Go.Proofs.Ytemfbibeoibpeaa
namespace Go.Proofs.Ytemfbibeoibpeaa
open Go.RowKit Go.PlainAid

abbrev okc (c : Int) : Prop := (97 ≤ c ∧ c ≤ 122) ∨ (48 ≤ c ∧ c ≤ 57) ∨ c = 46 ∨ c = 95 ∨ c = 45 ∨ c = 47
abbrev PathP (s : ByteArray) : Prop := 1 ≤ s.size ∧ s.size ≤ 40 ∧ bt s 0 = 47 ∧ ∀ j, j < s.size → okc (bt s j)
def pathB (s : ByteArray) : Bool := decide (PathP s)
theorem pathB_yes {s : ByteArray} (h : PathP s) : pathB s = true := decide_eq_true h
theorem pathB_no {s : ByteArray} (h : ¬ PathP s) : pathB s = false := decide_eq_false h
theorem pathB_iff {s : ByteArray} : pathB s = true ↔ PathP s := decide_eq_true_iff

def upd (p : ByteArray) (l : List ByteArray) : List ByteArray :=
  if p.toList.isEmpty = true ∨ (p.toList == [46]) = true then l else if (p.toList == [46, 46]) = false then l ++ [p] else l.dropLast
def clStep (s : ByteArray) (i : Nat) (st : Nat × List ByteArray) : Nat × List ByteArray :=
  if i < s.size ∧ bt s i ≠ 47 then st else (i + 1, upd (s.extract st.1 i) st.2)
def clTo (s : ByteArray) : Nat → Nat × List ByteArray
  | 0 => (0, [])
  | k + 1 => clStep s k (clTo s k)
theorem upd_len (p : ByteArray) (l : List ByteArray) : (upd p l).length ≤ l.length + 1 := by
  unfold upd
  split
  · omega
  · split
    · simp
    · simp; omega
theorem clTo_bd (s : ByteArray) (k : Nat) : (clTo s k).1 ≤ k ∧ (clTo s k).2.length ≤ k := by
  induction k with
  | zero => simp [clTo]
  | succ k ih =>
    have h := upd_len (s.extract (clTo s k).1 k) (clTo s k).2
    unfold clTo clStep
    split
    · omega
    · simp only; omega
theorem clTo_on {s : ByteArray} {k : Nat} (h1 : k < s.size) (h2 : bt s k ≠ 47) : clTo s (k + 1) = clTo s k := by rw [clTo, clStep, if_pos ⟨h1, h2⟩]
theorem clTo_part {s : ByteArray} {k : Nat} (h : ¬ (k < s.size ∧ bt s k ≠ 47)) : clTo s (k + 1) = (k + 1, upd (s.extract (clTo s k).1 k) (clTo s k).2) := by rw [clTo, clStep, if_neg h]
theorem upd_empty {p : ByteArray} {l : List ByteArray} (h : p.toList.isEmpty = true) : upd p l = l := by rw [upd, if_pos (.inl h)]
theorem upd_point {p : ByteArray} {l : List ByteArray} (h : (p.toList == [46]) = true) : upd p l = l := by rw [upd, if_pos (.inr h)]
theorem upd_name {p : ByteArray} {l : List ByteArray} (h0 : p.toList.isEmpty = false) (h1 : (p.toList == [46]) = false) (h2 : (p.toList == [46, 46]) = false) : upd p l = l ++ [p] := by
  rw [upd, if_neg (by rw [h0, h1]; simp), if_pos h2]
theorem upd_up {p : ByteArray} {l : List ByteArray} (h0 : p.toList.isEmpty = false) (h1 : (p.toList == [46]) = false) (h2 : (p.toList == [46, 46]) = true) : upd p l = l.dropLast := by
  rw [upd, if_neg (by rw [h0, h1]; simp), if_neg (by rw [h2]; simp)]
def parts (s : ByteArray) : List ByteArray := (clTo s (s.size + 1)).2
def joinTo (l : List ByteArray) : Nat → ByteArray
  | 0 => { data := #[] }
  | k + 1 => joinTo l k ++ { data := #[47] } ++ l.getD k { data := #[] }
def cleanS (s : ByteArray) : ByteArray := if pathB s then (if (parts s).length = 0 then { data := #[47] } else joinTo (parts s) (parts s).length) else { data := #[] }
theorem cleanS_no {s : ByteArray} (h : pathB s = false) : cleanS s = { data := #[] } := by rw [cleanS, h]; rfl
theorem cleanS_root {s : ByteArray} (h : pathB s = true) (hp : (parts s).length = 0) : cleanS s = { data := #[47] } := by rw [cleanS, h, if_pos rfl, if_pos hp]
theorem cleanS_yes {s : ByteArray} (h : pathB s = true) (hp : ¬ (parts s).length = 0) : cleanS s = joinTo (parts s) (parts s).length := by rw [cleanS, h, if_pos rfl, if_neg hp]
theorem upd_sizes (p : ByteArray) (l : List ByteArray) (B : Nat) (hp : p.size ≤ B) (hl : ∀ x ∈ l, x.size ≤ B) : ∀ x ∈ upd p l, x.size ≤ B := by
  intro x hx
  unfold upd at hx
  split at hx
  · exact hl x hx
  · split at hx
    · simp only [List.mem_append, List.mem_singleton] at hx
      rcases hx with hx | rfl
      · exact hl x hx
      · exact hp
    · exact hl x ((List.dropLast_sublist l).subset hx)
theorem clTo_sizes (s : ByteArray) (k : Nat) : ∀ x ∈ (clTo s k).2, x.size ≤ s.size := by
  induction k with
  | zero => simp [clTo]
  | succ k ih =>
    unfold clTo clStep
    split
    · exact ih
    · exact upd_sizes _ _ _ (by rw [ByteArray.size_extract]; omega) ih
theorem getD_size (s : ByteArray) (l : List ByteArray) (h : ∀ x ∈ l, x.size ≤ s.size) (k : Nat) : (l.getD k { data := #[] }).size ≤ s.size := by
  by_cases hk : k < l.length
  · have e : l.getD k { data := #[] } = l[k] := by simp [List.getD, List.getElem?_eq_getElem hk]
    rw [e]
    exact h _ (List.getElem_mem hk)
  · have e : l.getD k { data := #[] } = { data := #[] } := by simp [List.getD, List.getElem?_eq_none (Nat.le_of_not_lt hk)]
    rw [e]
    exact Nat.zero_le _
theorem joinTo_size (s : ByteArray) (l : List ByteArray) (h : ∀ x ∈ l, x.size ≤ s.size) (k : Nat) : (joinTo l k).size ≤ k * (s.size + 1) := by
  induction k with
  | zero => exact Nat.zero_le _
  | succ k ih =>
    have := getD_size s l h k
    rw [joinTo, ByteArray.size_append, ByteArray.size_append, Nat.succ_mul]
    have e : ({ data := #[47] } : ByteArray).size = 1 := rfl
    omega

def OwnS (w : World) (base : Nat) (e : TypeId) (g n cap : Nat) (xs : List ByteArray) : Prop := w.ownsRow base e 1 (.slice (some ⟨g, 0, none⟩) n cap) n (xs.map Value.string) ∧ n = xs.length
theorem ownS_len {w : World} {base g n cap : Nat} {e : TypeId} {xs : List ByteArray} (h : OwnS w base e g n cap xs) : n = xs.length := h.2
theorem ownS_cap {w : World} {base g n cap : Nat} {e : TypeId} {xs : List ByteArray} (h : OwnS w base e g n cap xs) : n ≤ cap ∧ cap ≤ 9223372036854775807 ∧ base ≤ g := by
  rcases h.1.2 with ⟨h', _⟩ | ⟨g', cap', cur, h', hb, _, hn, hm, _⟩
  · simp at h'
  · simp only [Value.slice.injEq, Option.some.injEq, Addr.mk.injEq, and_true, true_and] at h'
    obtain ⟨rfl, rfl⟩ := h'
    unfold maxLen at hm
    exact ⟨hn, by omega, hb⟩
theorem ownS_cell {w : World} {base g n cap : Nat} {e : TypeId} {xs : List ByteArray} (h : OwnS w base e g n cap xs) (j : Nat) (hj : j < n) : w.cell? ⟨g, j, none⟩ = some (.string (xs.getD j { data := #[] })) := by
  have hl := h.2
  rw [h.1.cellAt j (by omega)]
  simp [List.getD, List.getElem?_eq_getElem (show j < xs.length by omega)]
theorem ownS_pop {w : World} {base g n cap : Nat} {e : TypeId} {xs : List ByteArray} (h : OwnS w base e g (n + 1) cap xs) : OwnS w base e g n cap xs.dropLast := by
  obtain ⟨⟨hl, hc⟩, hn⟩ := h
  rw [List.length_map] at hl
  refine ⟨⟨by rw [List.length_map, List.length_dropLast]; omega, ?_⟩, by rw [List.length_dropLast]; omega⟩
  rcases hc with ⟨h', _⟩ | ⟨g', cap', cur, h', hb, hg, hnc, hm, hcs, ht⟩
  · simp at h'
  · simp only [Value.slice.injEq, Option.some.injEq, Addr.mk.injEq, and_true, true_and] at h'
    obtain ⟨rfl, rfl⟩ := h'
    refine .inr ⟨g, cap, cur, rfl, hb, hg, by omega, hm, hcs, ?_⟩
    rw [List.map_dropLast, ← ht, List.dropLast_eq_take, List.length_take, List.take_take]
    congr 1
    have : cur.toList.length = cap := by rw [Array.length_toList, hcs, Nat.mul_one]
    omega
theorem app_str {P : Program} (w : World) {ops : Array Oper} {rest : List Oper} {o : Oper} {a : Act} {Q : Exit → Act → World → Prop} (hgd : o.guard = none) (s x : Operand) (t : TypeId)
    (ho : o.op = .call { callee := .builtin .append, args := #[s, x], argTypes := #[t, t] })
    (base : Nat) (e : TypeId) (i : TypeInfo) (z : Value) (ht : P.underlying t = some (.slice e)) (hi : P.info? e = some i) (hz : i.zero = some z) (hsize : i.size = 1) (hby : i.bytes = 16) (hzs : z.cells.size = 1)
    (g n cap : Nat) (xs : List ByteArray) (hs : a.eval s = .slice (some ⟨g, 0, none⟩) n cap) (hown : OwnS w base e g n cap xs)
    (b : ByteArray) (hx : a.eval x = .slice (some ⟨w.heap.size, 0, none⟩) 1 1) (hn : n + 1 ≤ 1000000) (hbase : base ≤ w.heap.size)
    (h : ∀ g' cap' w', OwnS w' base e g' (n + 1) cap' (xs ++ [b]) → Below base w w' → wpList P ops Q rest (a.put o.dst (.slice (some ⟨g', 0, none⟩) (n + 1) cap')) w') :
    wpList P ops Q (o :: rest) a (w.alloc (.cells #[.string b] e)) := by
  refine wpList_append_own _ hgd s x t ho base e i z 1 16 ht hi hz hsize hby hzs (by decide) _ n _ hs (hown.1.alloc _) ⟨w.heap.size, 0, none⟩ 1 1 [.string b] hx rfl ?_ ?_ ?_ ?_ ?_ ?_
  · intro j u hj
    match j, hj with
    | 0, hj =>
      simp at hj
      subst hj
      simp [Addr.add]
  · intro u hu
    simp at hu
    subst hu
    rfl
  · unfold maxLen; omega
  · omega
  · simp; omega
  · intro v' w' h1 h2 h3
    have hb : Below base w w' := ((Below.refl base w).alloc hbase _).grown h2 (by simp; omega) (own_block_ge hown.1)
    rcases h1.2 with ⟨hv, _⟩ | ⟨g', cap', cur, rfl, hrest⟩
    · have := (h3.1 hv).1
      simp at this
    · refine h g' cap' w' ⟨?_, by rw [List.length_append]; have := hown.2; simp; omega⟩ hb
      rw [List.map_append]
      exact h1
theorem ownS_later {w W : World} {base g n cap : Nat} {e : TypeId} {xs : List ByteArray} (h : OwnS w base e g n cap xs) (hb : Below w.heap.size w W) : OwnS W base e g n cap xs := by
  refine ⟨⟨h.1.1, ?_⟩, h.2⟩
  rcases h.1.2 with k | ⟨g', cap', cur, hv, hbase, hg, hn, hm, hcs, ht⟩
  · exact .inl k
  · have hlt : g' < w.heap.size := by
      rcases Nat.lt_or_ge g' w.heap.size with k | k
      · exact k
      · rw [Array.getElem?_eq_none k] at hg
        cases hg
    exact .inr ⟨g', cap', cur, hv, hbase, (hb.block g' hlt).trans hg, hn, hm, hcs, ht⟩
end Go.Proofs.Ytemfbibeoibpeaa
namespace Go.Proofs.Ytemfbibeoibpeaa
open Go.RowKit Go.PlainAid

structure FilesAt (w : World) (a : Option Addr) (b off len : Nat) (Pt Tx : Nat → ByteArray) : Prop where
  addr : 0 < len → a = some ⟨b, off, none⟩
  lt : 0 < len → b < w.heap.size
  path : ∀ j, j < len → w.cell? ⟨b, off + j * 2, none⟩ = some (.string (Pt j))
  text : ∀ j, j < len → w.cell? ⟨b, off + j * 2 + 1, none⟩ = some (.string (Tx j))
theorem FilesAt.later {w w' : World} {a : Option Addr} {b off len : Nat} {Pt Tx : Nat → ByteArray} (h : FilesAt w a b off len Pt Tx) (hb : Below w.heap.size w w') : FilesAt w' a b off len Pt Tx :=
  ⟨h.addr, fun k => Nat.lt_of_lt_of_le (h.lt k) hb.size, fun j hj => by rw [hb.cell (h.lt (by omega))]; exact h.path j hj, fun j hj => by rw [hb.cell (h.lt (by omega))]; exact h.text j hj⟩

def OwnF (w : World) (base : Nat) (e : TypeId) (g len k : Nat) (Pt Tx : Nat → ByteArray) : Prop :=
  ∃ xs, w.ownsRow base e 2 (.slice (some ⟨g, 0, none⟩) len len) len xs ∧ ∀ j, j < k → xs[j * 2]? = some (.string (Pt j)) ∧ xs[j * 2 + 1]? = some (.string (Tx j))
theorem OwnF.has {w : World} {base g len k : Nat} {e : TypeId} {Pt Tx : Nat → ByteArray} (h : OwnF w base e g len k Pt Tx) (j : Nat) (hj : j < len * 2) : ∃ v, w.cell? ⟨g, j, none⟩ = some v := by
  obtain ⟨xs, h1, _⟩ := h
  have hl := h1.1
  rw [h1.cellAt j hj]
  exact ⟨_, List.getElem?_eq_getElem (by omega)⟩
theorem OwnF.free {w : World} {base g len k : Nat} {e : TypeId} {Pt Tx : Nat → ByteArray} (h : OwnF w base e g len k Pt Tx) (j : Nat) : w.frozen? ⟨g, j, none⟩ = false := by
  obtain ⟨xs, h1, _⟩ := h
  exact h1.frozenAt j
theorem OwnF.fill {w : World} {base g len k : Nat} {e : TypeId} {Pt Tx : Nat → ByteArray} (h : OwnF w base e g len k Pt Tx) (hk : k < len) :
    OwnF ((w.setCell ⟨g, k * 2, none⟩ (.string (Pt k))).setCell ⟨g, k * 2 + 1, none⟩ (.string (Tx k))) base e g len (k + 1) Pt Tx := by
  obtain ⟨xs, h1, h2⟩ := h
  have hl := h1.1
  refine ⟨_, ((h1.stored (k * 2) (.string (Pt k))).1.stored (k * 2 + 1) (.string (Tx k))).1, fun j hj => ?_⟩
  by_cases e : j = k
  · subst e
    constructor
    · rw [List.getElem?_set, if_neg (by omega), List.getElem?_set, if_pos rfl, if_pos (by omega)]
    · rw [List.getElem?_set, if_pos rfl, if_pos (by rw [List.length_set]; omega)]
  · have h3 := h2 j (by omega)
    rw [List.getElem?_set, if_neg (by omega), List.getElem?_set, if_neg (by omega), List.getElem?_set, if_neg (by omega), List.getElem?_set, if_neg (by omega)]
    exact h3
theorem OwnF.lt {w : World} {base g len k : Nat} {e : TypeId} {Pt Tx : Nat → ByteArray} (h : OwnF w base e g len k Pt Tx) : g < w.heap.size ∧ base ≤ g := by
  obtain ⟨xs, h1, _⟩ := h
  rcases h1.2 with ⟨h', _⟩ | ⟨g', cap', cur, h', hb, hg, _⟩
  · simp at h'
  · simp only [Value.slice.injEq, Option.some.injEq, Addr.mk.injEq, and_true, true_and] at h'
    obtain ⟨rfl, rfl⟩ := h'
    exact ⟨(Array.getElem?_eq_some_iff.1 hg).1, hb⟩
theorem OwnF.files {w : World} {base g len : Nat} {e : TypeId} {Pt Tx : Nat → ByteArray} (h : OwnF w base e g len len Pt Tx) : FilesAt w (some ⟨g, 0, none⟩) g 0 len Pt Tx := by
  have hlt := h.lt.1
  obtain ⟨xs, h1, h2⟩ := h
  refine ⟨fun _ => rfl, fun _ => hlt, fun j hj => ?_, fun j hj => ?_⟩
  · rw [Nat.zero_add, h1.cellAt _ (by omega)]
    exact (h2 j hj).1
  · rw [Nat.zero_add, h1.cellAt _ (by omega)]
    exact (h2 j hj).2
theorem OwnF.later {w w' : World} {base g len k : Nat} {e : TypeId} {Pt Tx : Nat → ByteArray} (h : OwnF w base e g len k Pt Tx) (hb : Below w.heap.size w w') : OwnF w' base e g len k Pt Tx := by
  have hlt := h.lt.1
  obtain ⟨xs, h1, h2⟩ := h
  refine ⟨xs, ⟨h1.1, ?_⟩, h2⟩
  rcases h1.2 with k | ⟨g', cap', cur, hv, hbase, hg, hr⟩
  · exact .inl k
  · simp only [Value.slice.injEq, Option.some.injEq, Addr.mk.injEq, and_true, true_and] at hv
    obtain ⟨rfl, rfl⟩ := hv
    exact .inr ⟨g, len, cur, rfl, hbase, (hb.block g hlt).trans hg, hr⟩

theorem box_cells {w w1 : World} {p t : ByteArray} {e : TypeId} (hb : Below (w.alloc (.cells #[.string p, .string t] e)).heap.size (w.alloc (.cells #[.string p, .string t] e)) w1) :
    w1.cell? ⟨w.heap.size, 0, none⟩ = some (.string p) ∧ w1.cell? ⟨w.heap.size, 1, none⟩ = some (.string t) ∧ Below w.heap.size w w1 := by
  have hs : (w.alloc (.cells #[.string p, .string t] e)).heap.size = w.heap.size + 1 := by show (w.heap.push _).size = _; simp
  have h1 : Below w.heap.size w (w.alloc (.cells #[.string p, .string t] e)) := (Below.refl _ _).alloc (Nat.le_refl _) _
  refine ⟨?_, ?_, h1.trans (hb.mono h1.size)⟩
  · rw [hb.cell (by show w.heap.size < _; omega), World.cell?_alloc_new]; rfl
  · rw [hb.cell (by show w.heap.size < _; omega), World.cell?_alloc_new]; rfl
def fpB (p : ByteArray) : Bool := pathB p && !(p.toList == [47]) && ((cleanS p).toList == p.toList)
def fileB (p t : ByteArray) : Bool := fpB p && decide ((t.size : Int) ≤ 1500)
abbrev FilesP (len : Nat) (Pt Tx : Nat → ByteArray) : Prop := len ≤ 8 ∧ ∀ k, k < len → fileB (Pt k) (Tx k) = true ∧ (0 < k → Op.bytesLess (Pt (k - 1)).toList (Pt k).toList = true)
def filesB (len : Nat) (Pt Tx : Nat → ByteArray) : Bool := decide (FilesP len Pt Tx)
theorem filesB_yes {len : Nat} {Pt Tx : Nat → ByteArray} (h : FilesP len Pt Tx) : filesB len Pt Tx = true := decide_eq_true h
theorem filesB_no {len : Nat} {Pt Tx : Nat → ByteArray} (h : ¬ FilesP len Pt Tx) : filesB len Pt Tx = false := decide_eq_false h
theorem filesB_iff {len : Nat} {Pt Tx : Nat → ByteArray} : filesB len Pt Tx = true ↔ FilesP len Pt Tx := decide_eq_true_iff
abbrev FilesTo (k : Nat) (Pt Tx : Nat → ByteArray) : Prop := ∀ j, j < k → fileB (Pt j) (Tx j) = true ∧ (0 < j → Op.bytesLess (Pt (j - 1)).toList (Pt j).toList = true)
theorem filesTo_next {k : Nat} {Pt Tx : Nat → ByteArray} (h : FilesTo k Pt Tx) (h1 : fileB (Pt k) (Tx k) = true) (h2 : 0 < k → Op.bytesLess (Pt (k - 1)).toList (Pt k).toList = true) : FilesTo (k + 1) Pt Tx := by
  intro j hj
  by_cases e : j = k
  · subst e; exact ⟨h1, h2⟩
  · exact h j (by omega)
theorem fpB_no_path {p : ByteArray} (h : pathB p = false) : fpB p = false := by rw [fpB, h]; rfl
theorem fpB_root {p : ByteArray} (h : (p.toList == [47]) = true) : fpB p = false := by rw [fpB, h]; simp
theorem fpB_clean {p : ByteArray} (h : ((cleanS p).toList == p.toList) = false) : fpB p = false := by rw [fpB, h]; simp
theorem fpB_yes {p : ByteArray} (h0 : pathB p = true) (h1 : (p.toList == [47]) = false) (h2 : ((cleanS p).toList == p.toList) = true) : fpB p = true := by rw [fpB, h0, h1, h2]; rfl
theorem fpB_empty {p : ByteArray} (h : p.toList.isEmpty = true) : fpB p = false := by
  have hz : p.size = 0 := by
    rw [Lib.toList_data] at h
    have e : p.data.toList.length = p.size := by rw [Array.length_toList]; rfl
    rw [List.isEmpty_iff.1 h] at e
    exact e.symm
  refine fpB_no_path (pathB_no fun k => ?_)
  have := k.1
  omega
theorem path_of_clean {p : ByteArray} (h0 : p.toList.isEmpty = false) (h2 : ((cleanS p).toList == p.toList) = true) : pathB p = true := by
  cases hp : pathB p with
  | true => rfl
  | false =>
    rw [cleanS_no hp] at h2
    have e := (toList_eq_iff _ _).1 h2
    rw [← e, Lib.toList_data] at h0
    cases h0
theorem fileB_path {p t : ByteArray} (h : fpB p = false) : fileB p t = false := by rw [fileB, h]; rfl
theorem fileB_text {p t : ByteArray} (h : ¬ (t.size : Int) ≤ 1500) : fileB p t = false := by rw [fileB, decide_eq_false h]; simp
theorem fileB_yes {p t : ByteArray} (h : fpB p = true) (ht : (t.size : Int) ≤ 1500) : fileB p t = true := by rw [fileB, h, decide_eq_true ht]; rfl

def findTo (Pt Tx : Nat → ByteArray) (q : ByteArray) : Nat → ByteArray × Bool
  | 0 => ({ data := #[] }, false)
  | k + 1 => if (findTo Pt Tx q k).2 = true then findTo Pt Tx q k else if Pt k = q then (Tx k, true) else ({ data := #[] }, false)
def findS (len : Nat) (Pt Tx : Nat → ByteArray) (q : ByteArray) : ByteArray × Bool := if filesB len Pt Tx = true then findTo Pt Tx q len else ({ data := #[] }, false)
theorem findTo_none {Pt Tx : Nat → ByteArray} {q : ByteArray} (k : Nat) (h : ∀ j, j < k → Pt j ≠ q) : findTo Pt Tx q k = ({ data := #[] }, false) := by
  induction k with
  | zero => rfl
  | succ k ih => rw [findTo, ih (fun j hj => h j (by omega)), if_neg (by simp), if_neg (h k (by omega))]
theorem findTo_at {Pt Tx : Nat → ByteArray} {q : ByteArray} {k : Nat} (hk : Pt k = q) (h : ∀ j, j < k → Pt j ≠ q) (m : Nat) (hm : k < m) : findTo Pt Tx q m = (Tx k, true) := by
  induction m with
  | zero => omega
  | succ m ih =>
    rw [findTo]
    by_cases e : k = m
    · subst e
      rw [findTo_none k h, if_neg (by simp), if_pos hk]
    · rw [ih (by omega), if_pos rfl]
theorem findS_bad {len : Nat} {Pt Tx : Nat → ByteArray} {q : ByteArray} (h : filesB len Pt Tx = false) : findS len Pt Tx q = ({ data := #[] }, false) := by rw [findS, h]; rfl
theorem findS_at {len : Nat} {Pt Tx : Nat → ByteArray} {q : ByteArray} {k : Nat} (hb : filesB len Pt Tx = true) (hlt : k < len) (hk : Pt k = q) (h : ∀ j, j < k → Pt j ≠ q) : findS len Pt Tx q = (Tx k, true) := by
  rw [findS, if_pos hb, findTo_at hk h len hlt]
theorem findS_none {len : Nat} {Pt Tx : Nat → ByteArray} {q : ByteArray} (h : ∀ j, j < len → Pt j ≠ q) : findS len Pt Tx q = ({ data := #[] }, false) := by
  rw [findS]
  split
  · exact findTo_none len h
  · rfl
end Go.Proofs.Ytemfbibeoibpeaa
namespace Go.Proofs.Ytemfbibeoibpeaa
open Go.RowKit Go.PlainAid

def upTo (c : ByteArray) : Nat → List ByteArray
  | 0 => []
  | k + 1 => (if bt c (k + 1) = 47 then [c.extract 0 (k + 1)] else []) ++ upTo c k
def upC (c : ByteArray) : List ByteArray := upTo c (c.size - 1) ++ if 1 < c.size then [{ data := #[47] }] else []
def upL (p : ByteArray) : List ByteArray := upC (cleanS p)
theorem upTo_yes {c : ByteArray} {k : Nat} (h : bt c (k + 1) = 47) : upTo c (k + 1) = c.extract 0 (k + 1) :: upTo c k := by rw [upTo, if_pos h]; rfl
theorem upTo_no {c : ByteArray} {k : Nat} (h : bt c (k + 1) ≠ 47) : upTo c (k + 1) = upTo c k := by rw [upTo, if_neg h]; rfl
theorem upTo_len (c : ByteArray) (k : Nat) : (upTo c k).length ≤ k := by
  induction k with
  | zero => exact Nat.le_refl _
  | succ k ih =>
    rw [upTo, List.length_append]
    split
    · simp; omega
    · simp; omega
theorem world_anyU {P : Program} {code : Code} {Q : Exit → Act → World → Prop} {a : Act} {w0 : World} {R : World → Prop} (h0 : R w0) (h : ∀ W, R W → Code.wp P code Q a W) : Code.wp P code Q a w0 := h w0 h0
theorem hidU {p : Prop} (h : p) : Hid p := h
end Go.Proofs.Ytemfbibeoibpeaa
