/-
  What the drawing functions of the specification tell, as plain functions of a code and a state; and the cursor in memory. No program is spoken of but by a type's number T that is handed in.
-/
import Derived.Test.YtkplighmefigcaaReadVarMath
import Derived.Test.YtkplighmefigcaaApp
import Derived.Deep.Draws
import Derived.WalkLawsBesides
namespace Go.Proofs.Ytkplighmefigcaa
open Go.RowKit Go.PlainAid

structure Src where
  a : Option Addr
  len : Nat
  cap : Nat
  Z : Nat → Int
  lim : Nat
def Src.ok (S : Src) : Prop := S.len ≤ 1048576 ∧ ∀ j, 0 ≤ S.Z j ∧ S.Z j ≤ 255
def CodeW (S : Src) (w : World) : Prop := ∀ j, j < S.len → ∃ b off, S.a = some ⟨b, off, none⟩ ∧ b < S.lim ∧ w.cell? ⟨b, off + j, none⟩ = some (.int .u8 (S.Z j))

def bh (h : Int) : Int := wrap64 (wrap64 (h * 6364136223846793005) + 1442695040888963407)
def bx (h : Int) : Int := bits .and .i64 (bits .xor .i64 (bh h / 8589934592) (bh h / 35184372088832)) 255
theorem bh_is (h : Int) : wrap64 (wrap64 (h * 6364136223846793005) + 1442695040888963407) = bh h := rfl
theorem bx_is (h : Int) : bits .and .i64 (bits .xor .i64 (bh h / 8589934592) (bh h / 35184372088832)) 255 = bx h := rfl
theorem and255 (y : Int) : 0 ≤ bits .and .i64 y 255 ∧ bits .and .i64 y 255 ≤ 255 := by
  have e : bits .and .i64 y 255 = IntKind.i64.wrap (((BitVec.ofInt 64 y &&& BitVec.ofInt 64 255).toNat : Nat) : Int) := rfl
  have h : (BitVec.ofInt 64 y &&& BitVec.ofInt 64 255).toNat ≤ 255 := by
    rw [BitVec.toNat_and]
    exact Nat.and_le_right
  rw [e, IntKind.wrap_i64]
  omega
theorem wrap64_bd (n : Int) : -9223372036854775808 ≤ wrap64 n ∧ wrap64 n ≤ 9223372036854775807 := by unfold wrap64; omega

def cb (S : Src) (q : Nat × Int) : Int × (Nat × Int) :=
  if q.1 < S.len then (bits .and .i64 (bx q.2 + S.Z q.1) 255, (q.1 + 1, bh q.2)) else (bx q.2, (q.1, bh q.2))
theorem cb_bd (S : Src) (q : Nat × Int) : 0 ≤ (cb S q).1 ∧ (cb S q).1 ≤ 255 := by
  unfold cb
  split
  · exact and255 _
  · exact and255 _
theorem cb_yes {S : Src} {i : Nat} {h : Int} (hi : i < S.len) : cb S (i, h) = (bits .and .i64 (bx h + S.Z i) 255, (i + 1, bh h)) := by rw [cb, if_pos hi]
theorem cb_no {S : Src} {i : Nat} {h : Int} (hi : ¬ i < S.len) : cb S (i, h) = (bx h, (i, bh h)) := by rw [cb, if_neg hi]
def bw (S : Src) (q : Nat × Int) (n : Int) : Int × (Nat × Int) :=
  if n ≤ 0 then (0, q) else if n ≤ 256 then ((cb S q).1 % n, (cb S q).2) else
    (((cb S q).1 * 16777216 + (cb S (cb S q).2).1 * 65536 + (cb S (cb S (cb S q).2).2).1 * 256 + (cb S (cb S (cb S (cb S q).2).2).2).1) % n, (cb S (cb S (cb S (cb S q).2).2).2).2)
theorem bw_bd (S : Src) (q : Nat × Int) (n : Int) (hn : 0 < n) : 0 ≤ (bw S q n).1 ∧ (bw S q n).1 < n := by
  unfold bw
  rw [if_neg (by omega)]
  split
  · exact ⟨Int.emod_nonneg _ (by omega), Int.emod_lt_of_pos _ hn⟩
  · exact ⟨Int.emod_nonneg _ (by omega), Int.emod_lt_of_pos _ hn⟩
def picks : List Int := [-1, 0, 127, 128, 255, 256, 16383, 16384, 65535, 65536, 562949953421311, 562949953421312, 999999999, 1000000000, -999999999, 9223372036854775807, -9223372036854775808]
def nm (S : Src) (q : Nat × Int) : Int × (Nat × Int) :=
  if (bw S q 8).1 = 0 then (picks.getD (bw S (bw S q 8).2 17).1.toNat 0, (bw S (bw S q 8).2 17).2)
  else if (bw S q 8).1 = 1 then (wrap64 ((bw S (bw S q 8).2 1000000000).1 * (bw S (bw S (bw S q 8).2 1000000000).2 1000000000).1), (bw S (bw S (bw S q 8).2 1000000000).2 1000000000).2)
  else if (bw S q 8).1 = 2 then (-(bw S (bw S q 8).2 100000).1, (bw S (bw S q 8).2 100000).2)
  else bw S (bw S q 8).2 70000
theorem picks_bd (j : Nat) : -9223372036854775808 ≤ picks.getD j 0 ∧ picks.getD j 0 ≤ 9223372036854775807 := by
  unfold picks
  match j with
  | 0 | 1 | 2 | 3 | 4 | 5 | 6 | 7 | 8 | 9 | 10 | 11 | 12 | 13 | 14 | 15 | 16 => decide
  | j + 17 => simp
theorem nm_bd (S : Src) (q : Nat × Int) : -9223372036854775808 ≤ (nm S q).1 ∧ (nm S q).1 ≤ 9223372036854775807 := by
  unfold nm
  split
  · exact picks_bd _
  · split
    · exact wrap64_bd _
    · split
      · have := bw_bd S (bw S q 8).2 100000 (by omega)
        simp only
        omega
      · have := bw_bd S (bw S q 8).2 70000 (by omega)
        omega
def chr (y b : Int) : Int := if y = 1 then b % 2 else if y = 2 then 97 + b % 4 else b
theorem chr_bd (y b : Int) (h : 0 ≤ b ∧ b ≤ 255) : 0 ≤ chr y b ∧ chr y b ≤ 255 := by
  unfold chr
  split
  · omega
  · split <;> omega
def txGo (S : Src) (y : Int) : Nat → Nat × Int → List Int × (Nat × Int)
  | 0, q => ([], q)
  | n + 1, q => (chr y (cb S q).1 :: (txGo S y n (cb S q).2).1, (txGo S y n (cb S q).2).2)
theorem txGo_len (S : Src) (y : Int) (n : Nat) (q : Nat × Int) : (txGo S y n q).1.length = n := by
  induction n generalizing q with
  | zero => rfl
  | succ n ih => simp [txGo, ih]
theorem txGo_bd (S : Src) (y : Int) (n : Nat) (q : Nat × Int) : ∀ x ∈ (txGo S y n q).1, 0 ≤ x ∧ x ≤ 255 := by
  induction n generalizing q with
  | zero => simp [txGo]
  | succ n ih =>
    intro x hx
    simp only [txGo, List.mem_cons] at hx
    rcases hx with rfl | hx
    · exact chr_bd _ _ (cb_bd S q)
    · exact ih _ x hx
def tx (S : Src) (q : Nat × Int) (most : Int) : List Int × (Nat × Int) :=
  txGo S (bw S q 4).1 (bw S (bw S q 4).2 (most + 1)).1.toNat (bw S (bw S q 4).2 (most + 1)).2
theorem tx_len (S : Src) (q : Nat × Int) (most : Int) (h : 0 ≤ most) : ((tx S q most).1.length : Int) ≤ most := by
  have := bw_bd S (bw S q 4).2 (most + 1) (by omega)
  rw [tx, txGo_len]
  omega
theorem tx_bd (S : Src) (q : Nat × Int) (most : Int) : ∀ x ∈ (tx S q most).1, 0 ≤ x ∧ x ≤ 255 := txGo_bd _ _ _ _
def spoil (S : Src) (q : Nat × Int) (s : ByteArray) : ByteArray × (Nat × Int) :=
  if s.size = 0 then (strOfNums (tx S q 3).1, (tx S q 3).2)
  else if (bw S (bw S q s.size).2 4).1 = 0 then (s.extract 0 (bw S q s.size).1.toNat ++ s.extract ((bw S q s.size).1.toNat + 1) s.size, (bw S (bw S q s.size).2 4).2)
  else if (bw S (bw S q s.size).2 4).1 = 1 then (s.extract 0 (bw S q s.size).1.toNat ++ strOfNums [(cb S (bw S (bw S q s.size).2 4).2).1] ++ s.extract (bw S q s.size).1.toNat s.size, (cb S (bw S (bw S q s.size).2 4).2).2)
  else if (bw S (bw S q s.size).2 4).1 = 2 then (s.extract 0 (bw S q s.size).1.toNat, (bw S (bw S q s.size).2 4).2)
  else (s.extract 0 (bw S q s.size).1.toNat ++ strOfNums [IntKind.u8.wrap (bits .xor .i64 (bt s (bw S q s.size).1.toNat) (1 + (bw S (bw S (bw S q s.size).2 4).2 255).1))] ++ s.extract ((bw S q s.size).1.toNat + 1) s.size, (bw S (bw S (bw S q s.size).2 4).2 255).2)
def newH (S : Src) : Nat → Int
  | 0 => 10101 + S.len
  | k + 1 => bits .and .i64 (newH S k * 131 + S.Z k + 7) 1073741823
def start (S : Src) : Nat × Int := (0, newH S (min S.len 4000))
def drawVar (S : Src) : Int := (nm S (start S)).1
def drawHex (S : Src) : List Int := (tx S (start S) 40).1
def drawRv0 (S : Src) : ByteArray := strOfNums (varL (nm S (start S)).1) ++ strOfNums (tx S (nm S (start S)).2 4).1
def drawRv (S : Src) : ByteArray :=
  if (bw S (tx S (nm S (start S)).2 4).2 4).1 = 0 then (spoil S (bw S (tx S (nm S (start S)).2 4).2 4).2 (drawRv0 S)).1 else drawRv0 S

def CurW (T : TypeId) (S : Src) (w : World) (g : Nat) (q : Nat × Int) : Prop :=
  w.heap[g]? = some (.cells #[.slice S.a S.len S.cap, .int .i64 (q.1 : Int), .int .i64 q.2] T (0, 0)) ∧ S.lim ≤ g ∧ q.1 ≤ S.len ∧ CodeW S w
theorem curW_cells {T : TypeId} {S : Src} {w : World} {g : Nat} {q : Nat × Int} (h : CurW T S w g q) :
    w.cell? ⟨g, 0, none⟩ = some (.slice S.a S.len S.cap) ∧ w.cell? ⟨g, 1, none⟩ = some (.int .i64 (q.1 : Int)) ∧ w.cell? ⟨g, 2, none⟩ = some (.int .i64 q.2) ∧ w.frozen? ⟨g, 1, none⟩ = false ∧ w.frozen? ⟨g, 2, none⟩ = false := by
  have hg := h.1
  refine ⟨?_, ?_, ?_, frozen_of_row w g 1 _ _ hg, frozen_of_row w g 2 _ _ hg⟩
  · rw [cell_of_row w g 0 _ _ _ hg]; rfl
  · rw [cell_of_row w g 1 _ _ _ hg]; rfl
  · rw [cell_of_row w g 2 _ _ _ hg]; rfl
theorem curW_lt {T : TypeId} {S : Src} {w : World} {g : Nat} {q : Nat × Int} (h : CurW T S w g q) : g < w.heap.size := by
  rcases Nat.lt_or_ge g w.heap.size with k | k
  · exact k
  · have := h.1
    rw [Array.getElem?_eq_none k] at this
    cases this
theorem codeW_kept {S : Src} {w w' : World} (h : CodeW S w) (hk : ∀ k, k < S.lim → w'.heap[k]? = w.heap[k]?) : CodeW S w' := by
  intro j hj
  obtain ⟨b, off, ha, hb, hc⟩ := h j hj
  exact ⟨b, off, ha, hb, (World.cell?_of_block (w := w) (a := ⟨b, off + j, none⟩) (hk b hb)).trans hc⟩
theorem codeW_below {S : Src} {w w' : World} {B : Nat} (h : CodeW S w) (hb : Below B w w') (hB : S.lim ≤ B) : CodeW S w' :=
  codeW_kept h fun k hk => hb.block k (by omega)
theorem curW_kept {T : TypeId} {S : Src} {w w' : World} {g : Nat} {q : Nat × Int} (h : CurW T S w g q) (hk : ∀ k, k ≤ g → w'.heap[k]? = w.heap[k]?) : CurW T S w' g q :=
  ⟨(hk g (Nat.le_refl _)).trans h.1, h.2.1, h.2.2.1, codeW_kept h.2.2.2 fun k hk' => hk k (by have := h.2.1; omega)⟩
theorem curW_below {T : TypeId} {S : Src} {w w' : World} {g B : Nat} {q : Nat × Int} (h : CurW T S w g q) (hb : Below B w w') (hB : g < B) : CurW T S w' g q :=
  curW_kept h fun k hk => hb.block k (by omega)
theorem grown_trans {a b c : World} {r : Option Nat} (h : a.grownBy b r) (k : b.grownBy c r) : a.grownBy c r :=
  ⟨k.os.trans h.os, k.tape.trans h.tape, k.output.trans h.output, Nat.le_trans h.size k.size, fun n hn hr => (k.block n (Nat.lt_of_lt_of_le hn h.size) hr).trans (h.block n hn hr)⟩
theorem grown_below {a b c : World} {r : Option Nat} {B : Nat} (h : a.grownBy b r) (k : Below B b c) (hB : a.heap.size ≤ B) : a.grownBy c r :=
  ⟨k.os.trans h.os, k.tape.trans h.tape, k.output.trans h.output, Nat.le_trans h.size k.size, fun n hn hr => (k.block n (by omega)).trans (h.block n hn hr)⟩
theorem below_grown {a b c : World} {g B : Nat} (h : Below B a b) (k : b.grownBy c (some g)) (hg : B ≤ g) (hB : B ≤ b.heap.size) : Below B a c :=
  h.grown k hB (fun j hj => by simp only [Option.some.injEq] at hj; omega)
theorem grown_drewN {a b : World} {r : Option Nat} (h : a.grownBy b r) (n : Nat) : a.grownBy (b.drewN n) r := ⟨h.os, h.tape, h.output, h.size, h.block⟩
theorem grown_setCell {a b : World} {g j : Nat} (h : a.grownBy b (some g)) (v : Value) : a.grownBy (b.setCell ⟨g, j, none⟩ v) (some g) := by
  refine ⟨h.os, h.tape, h.output, ?_, fun k hk hr => ?_⟩
  · have : (b.setCell ⟨g, j, none⟩ v).heap.size = b.heap.size := by simp
    rw [this]; exact h.size
  · rw [Below.heap_setCell _ _ _ _ (fun e => hr (by rw [e]))]
    exact h.block k hk hr
theorem curW_h {T : TypeId} {S : Src} {w : World} {g i : Nat} {h : Int} (hc : CurW T S w g (i, h)) (h' : Int) : CurW T S (w.setCell ⟨g, 2, none⟩ (.int .i64 h')) g (i, h') :=
  ⟨by rw [heap_setCell_same w g 2 _ _ _ hc.1]; rfl, hc.2.1, hc.2.2.1, codeW_kept hc.2.2.2 fun k hk => Below.heap_setCell _ _ _ _ (by have := hc.2.1; show k ≠ g; omega)⟩
theorem curW_i {T : TypeId} {S : Src} {w : World} {g i : Nat} {h : Int} (hc : CurW T S w g (i, h)) (i' : Nat) (hi : i' ≤ S.len) : CurW T S (w.setCell ⟨g, 1, none⟩ (.int .i64 (i' : Int))) g (i', h) :=
  ⟨by rw [heap_setCell_same w g 1 _ _ _ hc.1]; rfl, hc.2.1, hi, codeW_kept hc.2.2.2 fun k hk => Below.heap_setCell _ _ _ _ (by have := hc.2.1; show k ≠ g; omega)⟩
theorem ownB_grown {w w' : World} {base n g : Nat} {e : TypeId} {v : Value} {xs : List Int} (h : OwnB w base e v n xs) (k : w.grownBy w' (some g)) (hg : g < base) : OwnB w' base e v n xs := by
  refine World.ownsRow.kept h k ?_
  rcases hv : v.ownBlock with _ | b
  · exact .inl rfl
  · right
    have := own_block_ge h b hv
    intro e
    simp only [Option.some.injEq] at e
    omega
end Go.Proofs.Ytkplighmefigcaa
