/-
  Plain facts of numbers and bytes, and small facts on what a call hands back: no program is spoken of.
  Strings made of byte slices: what 'string(b)' tells where b is a row of the call's own; rows that are filled place by place; what strings are as lists of numbers. No program is spoken of.
  Plain facts on texts as lists of numbers. No program is spoken of.
-/
import Derived.WalkKit
import Derived.PlainAid
import Derived.Laws.BytesArg
import Derived.Lib.Strings
namespace Go.Proofs.Ytdbpknmoacjodaa
open Go.RowKit Go.PlainAid

def inB (a b c : Int) : Bool := decide (b ≤ a) && decide (a ≤ c)
theorem inB_yes {a b c : Int} (h : b ≤ a) (k : a ≤ c) : inB a b c = true := by simp [inB, h, k]
theorem inB_no {a b c : Int} (h : ¬ (b ≤ a ∧ a ≤ c)) : inB a b c = false := by
  simp only [inB, Bool.and_eq_false_iff, decide_eq_false_iff_not]; omega
theorem inB_iff {a b c : Int} : inB a b c = true ↔ b ≤ a ∧ a ≤ c := by simp [inB]

theorem ret_bool {a b : Bool} (h : a = b) : Ending.returned (.bool a) = .returned (.bool b) := by rw [h]
theorem ret_int {k : IntKind} {a b : Int} (h : a = b) : Ending.returned (.int k a) = .returned (.int k b) := by rw [h]
theorem ret_str {a b : ByteArray} (h : a = b) : Ending.returned (.string a) = .returned (.string b) := by rw [h]
theorem ret_int_bool {a b : Int} {c d : Bool} (h : a = b) (k : c = d) : Ending.returned (.tuple #[.int .i64 a, .bool c]) = .returned (.tuple #[.int .i64 b, .bool d]) := by rw [h, k]
theorem ret_int_int {a b c d : Int} (h : a = b) (k : c = d) : Ending.returned (.tuple #[.int .i64 a, .int .i64 c]) = .returned (.tuple #[.int .i64 b, .int .i64 d]) := by rw [h, k]
theorem ret_str_bool {a b : ByteArray} {c d : Bool} (h : a = b) (k : c = d) : Ending.returned (.tuple #[.string a, .bool c]) = .returned (.tuple #[.string b, .bool d]) := by rw [h, k]

def rfix (s : ByteArray) : Nat → Int
  | 0 => 0
  | k + 1 => rfix s k * 256 + bt s k
theorem rfix_step (s : ByteArray) (k : Nat) (B : Int) (h : 0 ≤ rfix s k ∧ rfix s k ≤ B) : 0 ≤ rfix s (k + 1) ∧ rfix s (k + 1) ≤ B * 256 + 255 := by
  have h0 := bt_nonneg s k
  have h1 := bt_le s k
  simp only [rfix]; omega
theorem rfix_lt (s : ByteArray) (k : Nat) (h : k ≤ 6) : 0 ≤ rfix s k ∧ rfix s k ≤ 281474976710655 := by
  have e0 : 0 ≤ rfix s 0 ∧ rfix s 0 ≤ 0 := by simp [rfix]
  have e1 := rfix_step s 0 _ e0
  have e2 := rfix_step s 1 _ e1
  have e3 := rfix_step s 2 _ e2
  have e4 := rfix_step s 3 _ e3
  have e5 := rfix_step s 4 _ e4
  have e6 := rfix_step s 5 _ e5
  simp only [Nat.zero_add, Nat.reduceAdd] at e1 e2 e3 e4 e5 e6
  match k, h with
  | 0, _ => omega
  | 1, _ => omega
  | 2, _ => omega
  | 3, _ => omega
  | 4, _ => omega
  | 5, _ => omega
  | 6, _ => omega
theorem or_byte (m b : Int) (h0 : 0 ≤ m) (h1 : m ≤ 281474976710655) (h2 : 0 ≤ b) (h3 : b ≤ 255) : bits .or .i64 (m * 256) b = m * 256 + b :=
  bits_join .i64 63 (by decide) (fun n a b => by rw [IntKind.wrap_i64]; omega) 8 (m * 256) b (by omega) (by omega) (by omega) h2 (by omega) (by omega)
def rfOk (s : ByteArray) (n : Int) : Bool := inB n 1 7 && decide (n ≤ s.size)
def rfV (s : ByteArray) (n : Int) : Int := if rfOk s n then rfix s n.toNat else 0
theorem rfOk_yes {s : ByteArray} {n : Int} (h1 : 1 ≤ n) (h7 : n ≤ 7) (hl : n ≤ s.size) : rfOk s n = true := by simp [rfOk, inB_yes h1 h7, hl]
theorem rfOk_no {s : ByteArray} {n : Int} (h : ¬ (1 ≤ n ∧ n ≤ 7 ∧ n ≤ s.size)) : rfOk s n = false := by
  simp only [rfOk, Bool.and_eq_false_iff, decide_eq_false_iff_not]
  by_cases k : 1 ≤ n ∧ n ≤ 7
  · exact .inr (by omega)
  · exact .inl (inB_no k)
theorem rfV_yes {s : ByteArray} {n : Int} (h1 : 1 ≤ n) (h7 : n ≤ 7) (hl : n ≤ s.size) : rfV s n = rfix s n.toNat := by simp [rfV, rfOk_yes h1 h7 hl]
theorem rfV_no {s : ByteArray} {n : Int} (h : ¬ (1 ≤ n ∧ n ≤ 7 ∧ n ≤ s.size)) : rfV s n = 0 := by simp [rfV, rfOk_no h]
end Go.Proofs.Ytdbpknmoacjodaa
namespace Go.Proofs.Ytdbpknmoacjodaa
open Go.RowKit Go.PlainAid

def OwnB (w : World) (base : Nat) (e : TypeId) (v : Value) (n : Nat) (xs : List Int) : Prop := w.ownsRow base e 1 v n (xs.map (Value.int .u8))

theorem run_string_own {P : Program} {w : World} {src dst e : TypeId} (hs : P.underlying src = some (.slice e)) (he : P.underlying e = some (.int .u8)) (hd : P.underlying dst = some .string)
    {base n : Nat} {v : Value} {xs : List Int} (h : OwnB w base e v n xs) : (convert src dst v).run P w = .ok (.string (strOfNums xs)) w := by
  obtain ⟨hl, hc⟩ := h
  rw [List.length_map, Nat.mul_one] at hl
  rcases hc with ⟨rfl, rfl⟩ | ⟨g, cap, cur, rfl, hb, hg, hn, hm, hcs, ht⟩
  · obtain rfl := List.length_eq_zero_iff.1 hl
    exact run_convert_bytes_nil w src e hs he 0 0 dst hd
  · refine run_convert_bytes_arg w src e hs he g 0 n cap xs hl (fun i hi => ?_) dst hd
    have hown : w.ownsRow base e 1 (.slice (some ⟨g, 0, none⟩) n cap) n (xs.map (Value.int .u8)) := ⟨by simpa using hl, .inr ⟨g, cap, cur, rfl, hb, hg, hn, hm, hcs, ht⟩⟩
    have := hown.cellAt i (by omega)
    rw [Nat.zero_add, this]
    simp [List.getD, List.getElem?_eq_getElem (show i < xs.length by omega)]

theorem run_string_one {P : Program} {src dst e : TypeId} (hs : P.underlying src = some (.slice e)) (he : P.underlying e = some (.int .u8)) (hd : P.underlying dst = some .string)
    (w : World) (x : Int) : (convert src dst (.slice (some ⟨w.heap.size, 0, none⟩) 1 1)).run P (w.alloc (.cells #[.int .u8 x] e)) = .ok (.string (strOfNums [x])) (w.alloc (.cells #[.int .u8 x] e)) := by
  refine run_convert_bytes_arg _ src e hs he w.heap.size 0 1 1 [x] rfl (fun i hi => ?_) dst hd
  obtain rfl : i = 0 := by omega
  rw [World.cell?_alloc_new]
  rfl

theorem strOfNums_append (xs ys : List Int) : strOfNums xs ++ strOfNums ys = strOfNums (xs ++ ys) := by
  unfold strOfNums
  rw [ByteArray.mk_append_mk, List.map_append]
theorem strOfNums_cons (x : Int) (ys : List Int) : strOfNums [x] ++ strOfNums ys = strOfNums (x :: ys) := strOfNums_append [x] ys
theorem strOfNums_nil : strOfNums [] = { data := #[] } := rfl

def fillTo (L : List Int) (k : Nat) : List Int := L.take k ++ List.replicate (L.length - k) 0
theorem fillTo_zero (L : List Int) : fillTo L 0 = List.replicate L.length 0 := by simp [fillTo]
theorem fillTo_full (L : List Int) (k : Nat) (h : L.length ≤ k) : fillTo L k = L := by
  simp [fillTo, List.take_of_length_le h, show L.length - k = 0 from by omega]
theorem fillTo_length (L : List Int) (k : Nat) (h : k ≤ L.length) : (fillTo L k).length = L.length := by simp [fillTo]; omega
theorem fillTo_set (L : List Int) (k : Nat) (x : Int) (h : k < L.length) (hx : L[k]? = some x) : (fillTo L k).set k x = fillTo L (k + 1) := by
  have hl : (L.take k).length = k := by simp; omega
  have hr : List.replicate (L.length - k) (0 : Int) = 0 :: List.replicate (L.length - (k + 1)) 0 := by
    rw [show L.length - k = (L.length - (k + 1)) + 1 from by omega, List.replicate_succ]
  have ht : L.take (k + 1) = L.take k ++ [x] := by rw [List.take_add_one, hx]; rfl
  unfold fillTo
  rw [List.set_append_right k x (by omega), hl, Nat.sub_self, hr, List.set_cons_zero, ht, List.append_assoc]
  rfl

def fillBack (L : List Int) (k : Nat) : List Int := List.replicate (L.length - k) 0 ++ L.drop (L.length - k)
theorem fillBack_zero (L : List Int) : fillBack L 0 = List.replicate L.length 0 := by simp [fillBack]
theorem fillBack_set (L : List Int) (k : Nat) (x : Int) (h : k < L.length) (hx : L[L.length - 1 - k]? = some x) : (fillBack L k).set (L.length - 1 - k) x = fillBack L (k + 1) := by
  have hr : List.replicate (L.length - k) (0 : Int) = List.replicate (L.length - (k + 1)) 0 ++ [0] := by
    rw [show L.length - k = (L.length - (k + 1)) + 1 from by omega, List.replicate_succ']
  have hd : L.drop (L.length - (k + 1)) = x :: L.drop (L.length - k) := by
    have e : L.length - (k + 1) = L.length - 1 - k := by omega
    rw [e]
    have hlt : L.length - 1 - k < L.length := by omega
    rw [List.drop_eq_getElem_cons hlt]
    rw [List.getElem?_eq_getElem hlt] at hx
    simp only [Option.some.injEq] at hx
    rw [hx, show L.length - 1 - k + 1 = L.length - k from by omega]
  unfold fillBack
  rw [hr, hd, List.append_assoc, List.set_append_right _ _ (by simp; omega), List.length_replicate, show L.length - 1 - k - (L.length - (k + 1)) = 0 from by omega]
  rfl

theorem own_set {w : World} {B g n cap : Nat} {e : TypeId} {L : List Int} (h : OwnB w B e (.slice (some ⟨g, 0, none⟩) n cap) n L) (j : Nat) (x : Int) :
    OwnB (w.setCell ⟨g, j, none⟩ (.int .u8 x)) B e (.slice (some ⟨g, 0, none⟩) n cap) n (L.set j x) := by
  unfold OwnB at h ⊢
  rw [List.map_set]
  exact (h.stored j (.int .u8 x)).1
theorem own_cell {w : World} {B g n cap : Nat} {e : TypeId} {L : List Int} (h : OwnB w B e (.slice (some ⟨g, 0, none⟩) n cap) n L) (j : Nat) (hj : j < n) : ∃ v, w.cell? ⟨g, j, none⟩ = some v := by
  unfold OwnB at h
  have hl := h.1
  rw [List.length_map, Nat.mul_one] at hl
  rw [h.cellAt j (by omega)]
  simp [List.getElem?_eq_getElem (show j < L.length by omega)]

theorem own_free {w : World} {B g n cap : Nat} {e : TypeId} {L : List Int} (h : OwnB w B e (.slice (some ⟨g, 0, none⟩) n cap) n L) (j : Nat) : w.frozen? ⟨g, j, none⟩ = false := World.ownsRow.frozenAt h j

def dl (n : Int) : Nat → List Int
  | 0 => []
  | k + 1 => (n / 2 ^ (8 * k) % 256) :: dl n k
theorem dl_length (n : Int) (k : Nat) : (dl n k).length = k := by
  induction k with
  | zero => rfl
  | succ k ih => simp [dl, ih]
theorem dl_at (n : Int) (m k : Nat) (h : k < m) : (dl n m)[k]? = some (n / 2 ^ (8 * (m - 1 - k)) % 256) := by
  induction m generalizing k with
  | zero => omega
  | succ m ih =>
    match k with
    | 0 => simp [dl]
    | k + 1 => rw [dl, List.getElem?_cons_succ, ih k (by omega), show m + 1 - 1 - (k + 1) = m - 1 - k from by omega]
theorem pow8 (k : Nat) : (2 : Int) ^ (8 * (k + 1)) = 2 ^ (8 * k) * 256 := by
  rw [show 8 * (k + 1) = 8 * k + 8 from by omega, Int.pow_add]; rfl
theorem pow8_pos (k : Nat) : (0 : Int) < 2 ^ (8 * k) := Int.pow_pos (by omega)
theorem shr8 (n : Int) (k : Nat) : n / 2 ^ (8 * k) / 256 = n / 2 ^ (8 * (k + 1)) := by
  rw [pow8, Int.ediv_ediv_of_nonneg (Int.le_of_lt (pow8_pos k))]
theorem shr8_bd (n : Int) (k : Nat) (h : 0 ≤ n) : 0 ≤ n / 2 ^ (8 * k) ∧ n / 2 ^ (8 * k) ≤ n :=
  ⟨Int.ediv_nonneg h (Int.le_of_lt (pow8_pos k)), Int.ediv_le_self _ h⟩
def fxOk (n m : Int) : Bool := inB m 1 7 && decide (0 ≤ n) && decide (n / 2 ^ (8 * m.toNat) = 0)
def fxL (n m : Int) : List Int := if fxOk n m then dl n m.toNat else []
theorem fxL_yes {n : Int} {m : Nat} (h1 : 1 ≤ m) (h7 : m ≤ 7) (h0 : 0 ≤ n) (hf : n / 2 ^ (8 * m) = 0) : fxL n m = dl n m := by
  simp [fxL, fxOk, h0, hf, inB_yes (a := (m : Int)) (b := 1) (c := 7) (by omega) (by omega)]
theorem fxL_no {n m : Int} (h : ¬ (1 ≤ m ∧ m ≤ 7 ∧ 0 ≤ n ∧ n / 2 ^ (8 * m.toNat) = 0)) : fxL n m = [] := by
  have : fxOk n m = false := by
    rw [Bool.eq_false_iff]
    intro k
    apply h
    simp only [fxOk, Bool.and_eq_true, decide_eq_true_eq, inB_iff] at k
    exact ⟨k.1.1.1, k.1.1.2, k.1.2, k.2⟩
  simp [fxL, this]
end Go.Proofs.Ytdbpknmoacjodaa
namespace Go.Proofs.Ytdbpknmoacjodaa
open Go.RowKit Go.PlainAid

theorem strOfNums_back (l : List Int) (h : ∀ x ∈ l, 0 ≤ x ∧ x ≤ 255) : (strOfNums l).data.toList.map (fun b => (b.toNat : Int)) = l := by
  rw [strOfNums_data, List.map_map]
  conv => rhs; rw [← List.map_id l]
  apply List.map_congr_left
  intro x hx
  have := h x hx
  simp only [Function.comp, id, UInt8.toNat_ofNat']
  omega
theorem strOfNums_inj {a b : List Int} (ha : ∀ x ∈ a, 0 ≤ x ∧ x ≤ 255) (hb : ∀ x ∈ b, 0 ≤ x ∧ x ≤ 255) (h : strOfNums a = strOfNums b) : a = b := by
  rw [← strOfNums_back a ha, ← strOfNums_back b hb, h]

def bsl (s : ByteArray) : Nat → Nat → List Int
  | _, 0 => []
  | i, m + 1 => bt s i :: bsl s (i + 1) m
theorem bsl_length (s : ByteArray) (i m : Nat) : (bsl s i m).length = m := by
  induction m generalizing i with
  | zero => rfl
  | succ m ih => simp [bsl, ih]
theorem bsl_bd (s : ByteArray) (i m : Nat) : ∀ x ∈ bsl s i m, 0 ≤ x ∧ x ≤ 255 := by
  induction m generalizing i with
  | zero => simp [bsl]
  | succ m ih =>
    intro x hx
    simp only [bsl, List.mem_cons] at hx
    rcases hx with rfl | hx
    · exact ⟨bt_nonneg s i, bt_le s i⟩
    · exact ih (i + 1) x hx
theorem ofNat_bt (s : ByteArray) (i : Nat) (h : i < s.data.toList.length) : UInt8.ofNat (bt s i).toNat = s.data.toList[i] := by
  have hs : i < s.size := by simpa using h
  rw [← get_bt s i hs, Int.toNat_natCast, UInt8.ofNat_toNat]
  rfl
theorem bsl_data (s : ByteArray) (i m : Nat) (h : i + m ≤ s.size) : (bsl s i m).map (fun n => UInt8.ofNat n.toNat) = (s.data.toList.drop i).take m := by
  induction m generalizing i with
  | zero => simp [bsl]
  | succ m ih =>
    have hl : i < s.data.toList.length := by rw [Array.length_toList]; exact Nat.lt_of_lt_of_le (show i < i + (m + 1) by omega) h
    rw [bsl, List.map_cons, ih (i + 1) (by omega), List.drop_eq_getElem_cons hl, List.take_succ_cons, ofNat_bt s i hl]
theorem extract_bsl (s : ByteArray) (k : Nat) (h : k ≤ s.size) : s.extract 0 k = strOfNums (bsl s 0 k) := by
  have e : (s.extract 0 k).data.toList = (strOfNums (bsl s 0 k)).data.toList := by
    rw [Lib.extract_data, strOfNums_data, bsl_data s 0 k (by omega), Nat.sub_zero]
  have e2 : (s.extract 0 k).data = (strOfNums (bsl s 0 k)).data := by
    rw [← Array.toArray_toList (xs := (s.extract 0 k).data), e, Array.toArray_toList]
  have cl : ∀ a b : ByteArray, a.data = b.data → a = b := by rintro ⟨a⟩ ⟨b⟩ h; cases h; rfl
  exact cl _ _ e2
theorem bytes_ext {a b : ByteArray} (h : a.data.toList = b.data.toList) : a = b := by
  obtain ⟨⟨a⟩⟩ := a
  obtain ⟨⟨b⟩⟩ := b
  simp only at h
  rw [h]
theorem toList_eq_iff (a b : ByteArray) : (a.toList == b.toList) = true ↔ a = b := by
  rw [beq_iff_eq, Lib.toList_data, Lib.toList_data]
  exact ⟨bytes_ext, fun h => by rw [h]⟩
theorem toList_ne {a b : ByteArray} (h : a ≠ b) : (a.toList == b.toList) = false := by
  rw [Bool.eq_false_iff]
  exact fun k => h ((toList_eq_iff a b).1 k)
theorem bsl_snoc (s : ByteArray) (i m : Nat) : bsl s i (m + 1) = bsl s i m ++ [bt s (i + m)] := by
  induction m generalizing i with
  | zero => simp [bsl]
  | succ m ih =>
    rw [bsl, ih (i + 1), bsl, show i + 1 + m = i + (m + 1) from by omega]
    rfl
theorem bsl_at (s : ByteArray) (i m k : Nat) (h : k < m) : (bsl s i m)[k]? = some (bt s (i + k)) := by
  induction m generalizing i k with
  | zero => omega
  | succ m ih =>
    match k with
    | 0 => simp [bsl]
    | k + 1 => rw [bsl, List.getElem?_cons_succ, ih (i + 1) k (by omega), show i + 1 + k = i + (k + 1) from by omega]
theorem all_bsl (s : ByteArray) : s = strOfNums (bsl s 0 s.size) := by
  rw [← extract_bsl s s.size (Nat.le_refl _)]
  refine bytes_ext ?_
  rw [Lib.extract_data, List.drop_zero, Nat.sub_zero, List.take_of_length_le]
  rw [Array.length_toList]
  exact Nat.le_refl _
theorem bt_list (s : ByteArray) (k : Nat) : bt s k = (s.data.toList.map (fun b => (b.toNat : Int))).getD k 0 := by
  unfold bt
  by_cases h : k < s.size
  · rw [dif_pos h]
    have hl : k < s.data.toList.length := by rw [Array.length_toList]; exact h
    simp only [List.getD, List.getElem?_map, List.getElem?_eq_getElem hl, Option.map_some, Option.getD_some]
    rfl
  · rw [dif_neg h]
    have hl : s.data.toList.length ≤ k := by rw [Array.length_toList]; exact Nat.le_of_not_lt h
    simp [List.getD, List.getElem?_eq_none hl]
theorem append_list (a b : ByteArray) : (a ++ b).data.toList = a.data.toList ++ b.data.toList := by
  obtain ⟨⟨a⟩⟩ := a
  obtain ⟨⟨b⟩⟩ := b
  rw [ByteArray.mk_append_mk]
end Go.Proofs.Ytdbpknmoacjodaa
