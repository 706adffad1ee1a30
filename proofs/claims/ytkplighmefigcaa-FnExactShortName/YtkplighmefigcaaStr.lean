/-
  Strings made of byte slices: what 'string(b)' tells where b is a row of the call's own; rows that are filled place by place; what strings are as lists of numbers. No program is spoken of.
-/
import Derived.Laws.BytesArg
import Derived.Test.YtkplighmefigcaaAid
namespace Go.Proofs.Ytkplighmefigcaa
open Go.RowKit Go.PlainAid

def OwnB (w : World) (base : Nat) (e : TypeId) (v : Value) (n : Nat) (xs : List Int) : Prop := w.ownsRow base e 1 v n (xs.map (Value.int .u8))

theorem run_string_own {P : Program} {w : World} {src dst e : TypeId} (hs : P.underlying src = some (.slice e)) (he : P.underlying e = some (.int .u8)) (hd : P.underlying dst = some .string)
    {base n : Nat} {v : Value} {xs : List Int} (h : OwnB w base e v n xs) : (convert src dst v).run P w = .ok (.string (strOfNums xs)) w := by
  obtain ⟨hl, hc⟩ := h
  rw [List.length_map, Nat.mul_one] at hl
  rcases hc with ⟨rfl, rfl⟩ | ⟨g, cap, cur, rfl, hb, hg, hn, hm, hcs, ht⟩
  · obtain rfl := List.length_eq_zero_iff.1 hl
    exact run_convert_bytes_nil w src e hs he 0 0 dst hd
  · refine run_convert_bytes_arg w src e hs he g 0 n cap xs hl (fun i hi => ?_) dst hd
    have hown : w.ownsRow base e 1 (.slice (some ⟨g, 0, none⟩) n cap) n (xs.map (Value.int .u8)) := ⟨by simpa using hl, .inr ⟨g, cap, cur, rfl, hb, hg, hn, hm, hcs, ht⟩⟩
    have := hown.cellAt i (by omega)
    rw [Nat.zero_add, this]
    simp [List.getD, List.getElem?_eq_getElem (show i < xs.length by omega)]

theorem run_string_one {P : Program} {src dst e : TypeId} (hs : P.underlying src = some (.slice e)) (he : P.underlying e = some (.int .u8)) (hd : P.underlying dst = some .string)
    (w : World) (x : Int) : (convert src dst (.slice (some ⟨w.heap.size, 0, none⟩) 1 1)).run P (w.alloc (.cells #[.int .u8 x] e)) = .ok (.string (strOfNums [x])) (w.alloc (.cells #[.int .u8 x] e)) := by
  refine run_convert_bytes_arg _ src e hs he w.heap.size 0 1 1 [x] rfl (fun i hi => ?_) dst hd
  obtain rfl : i = 0 := by omega
  rw [World.cell?_alloc_new]
  rfl

theorem strOfNums_append (xs ys : List Int) : strOfNums xs ++ strOfNums ys = strOfNums (xs ++ ys) := by
  unfold strOfNums
  rw [ByteArray.mk_append_mk, List.map_append]
theorem strOfNums_cons (x : Int) (ys : List Int) : strOfNums [x] ++ strOfNums ys = strOfNums (x :: ys) := strOfNums_append [x] ys
theorem strOfNums_nil : strOfNums [] = { data := #[] } := rfl

def fillTo (L : List Int) (k : Nat) : List Int := L.take k ++ List.replicate (L.length - k) 0
theorem fillTo_zero (L : List Int) : fillTo L 0 = List.replicate L.length 0 := by simp [fillTo]
theorem fillTo_full (L : List Int) (k : Nat) (h : L.length ≤ k) : fillTo L k = L := by
  simp [fillTo, List.take_of_length_le h, show L.length - k = 0 from by omega]
theorem fillTo_length (L : List Int) (k : Nat) (h : k ≤ L.length) : (fillTo L k).length = L.length := by simp [fillTo]; omega
theorem fillTo_set (L : List Int) (k : Nat) (x : Int) (h : k < L.length) (hx : L[k]? = some x) : (fillTo L k).set k x = fillTo L (k + 1) := by
  have hl : (L.take k).length = k := by simp; omega
  have hr : List.replicate (L.length - k) (0 : Int) = 0 :: List.replicate (L.length - (k + 1)) 0 := by
    rw [show L.length - k = (L.length - (k + 1)) + 1 from by omega, List.replicate_succ]
  have ht : L.take (k + 1) = L.take k ++ [x] := by rw [List.take_add_one, hx]; rfl
  unfold fillTo
  rw [List.set_append_right k x (by omega), hl, Nat.sub_self, hr, List.set_cons_zero, ht, List.append_assoc]
  rfl

def fillBack (L : List Int) (k : Nat) : List Int := List.replicate (L.length - k) 0 ++ L.drop (L.length - k)
theorem fillBack_zero (L : List Int) : fillBack L 0 = List.replicate L.length 0 := by simp [fillBack]
theorem fillBack_set (L : List Int) (k : Nat) (x : Int) (h : k < L.length) (hx : L[L.length - 1 - k]? = some x) : (fillBack L k).set (L.length - 1 - k) x = fillBack L (k + 1) := by
  have hr : List.replicate (L.length - k) (0 : Int) = List.replicate (L.length - (k + 1)) 0 ++ [0] := by
    rw [show L.length - k = (L.length - (k + 1)) + 1 from by omega, List.replicate_succ']
  have hd : L.drop (L.length - (k + 1)) = x :: L.drop (L.length - k) := by
    have e : L.length - (k + 1) = L.length - 1 - k := by omega
    rw [e]
    have hlt : L.length - 1 - k < L.length := by omega
    rw [List.drop_eq_getElem_cons hlt]
    rw [List.getElem?_eq_getElem hlt] at hx
    simp only [Option.some.injEq] at hx
    rw [hx, show L.length - 1 - k + 1 = L.length - k from by omega]
  unfold fillBack
  rw [hr, hd, List.append_assoc, List.set_append_right _ _ (by simp; omega), List.length_replicate, show L.length - 1 - k - (L.length - (k + 1)) = 0 from by omega]
  rfl

theorem own_set {w : World} {B g n cap : Nat} {e : TypeId} {L : List Int} (h : OwnB w B e (.slice (some ⟨g, 0, none⟩) n cap) n L) (j : Nat) (x : Int) :
    OwnB (w.setCell ⟨g, j, none⟩ (.int .u8 x)) B e (.slice (some ⟨g, 0, none⟩) n cap) n (L.set j x) := by
  unfold OwnB at h ⊢
  rw [List.map_set]
  exact (h.stored j (.int .u8 x)).1
theorem own_cell {w : World} {B g n cap : Nat} {e : TypeId} {L : List Int} (h : OwnB w B e (.slice (some ⟨g, 0, none⟩) n cap) n L) (j : Nat) (hj : j < n) : ∃ v, w.cell? ⟨g, j, none⟩ = some v := by
  unfold OwnB at h
  have hl := h.1
  rw [List.length_map, Nat.mul_one] at hl
  rw [h.cellAt j (by omega)]
  simp [List.getElem?_eq_getElem (show j < L.length by omega)]

theorem own_free {w : World} {B g n cap : Nat} {e : TypeId} {L : List Int} (h : OwnB w B e (.slice (some ⟨g, 0, none⟩) n cap) n L) (j : Nat) : w.frozen? ⟨g, j, none⟩ = false := World.ownsRow.frozenAt h j

def dl (n : Int) : Nat → List Int
  | 0 => []
  | k + 1 => (n / 2 ^ (8 * k) % 256) :: dl n k
theorem dl_length (n : Int) (k : Nat) : (dl n k).length = k := by
  induction k with
  | zero => rfl
  | succ k ih => simp [dl, ih]
theorem dl_at (n : Int) (m k : Nat) (h : k < m) : (dl n m)[k]? = some (n / 2 ^ (8 * (m - 1 - k)) % 256) := by
  induction m generalizing k with
  | zero => omega
  | succ m ih =>
    match k with
    | 0 => simp [dl]
    | k + 1 => rw [dl, List.getElem?_cons_succ, ih k (by omega), show m + 1 - 1 - (k + 1) = m - 1 - k from by omega]
theorem pow8 (k : Nat) : (2 : Int) ^ (8 * (k + 1)) = 2 ^ (8 * k) * 256 := by
  rw [show 8 * (k + 1) = 8 * k + 8 from by omega, Int.pow_add]; rfl
theorem pow8_pos (k : Nat) : (0 : Int) < 2 ^ (8 * k) := Int.pow_pos (by omega)
theorem shr8 (n : Int) (k : Nat) : n / 2 ^ (8 * k) / 256 = n / 2 ^ (8 * (k + 1)) := by
  rw [pow8, Int.ediv_ediv_of_nonneg (Int.le_of_lt (pow8_pos k))]
theorem shr8_bd (n : Int) (k : Nat) (h : 0 ≤ n) : 0 ≤ n / 2 ^ (8 * k) ∧ n / 2 ^ (8 * k) ≤ n :=
  ⟨Int.ediv_nonneg h (Int.le_of_lt (pow8_pos k)), Int.ediv_le_self _ h⟩
def fxOk (n m : Int) : Bool := inB m 1 7 && decide (0 ≤ n) && decide (n / 2 ^ (8 * m.toNat) = 0)
def fxL (n m : Int) : List Int := if fxOk n m then dl n m.toNat else []
theorem fxL_yes {n : Int} {m : Nat} (h1 : 1 ≤ m) (h7 : m ≤ 7) (h0 : 0 ≤ n) (hf : n / 2 ^ (8 * m) = 0) : fxL n m = dl n m := by
  simp [fxL, fxOk, h0, hf, inB_yes (a := (m : Int)) (b := 1) (c := 7) (by omega) (by omega)]
theorem fxL_no {n m : Int} (h : ¬ (1 ≤ m ∧ m ≤ 7 ∧ 0 ≤ n ∧ n / 2 ^ (8 * m.toNat) = 0)) : fxL n m = [] := by
  have : fxOk n m = false := by
    rw [Bool.eq_false_iff]
    intro k
    apply h
    simp only [fxOk, Bool.and_eq_true, decide_eq_true_eq, inB_iff] at k
    exact ⟨k.1.1.1, k.1.1.2, k.1.2, k.2⟩
  simp [fxL, this]
end Go.Proofs.Ytkplighmefigcaa
