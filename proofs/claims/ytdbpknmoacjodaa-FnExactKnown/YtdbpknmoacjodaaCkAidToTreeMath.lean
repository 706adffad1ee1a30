/-
  Plain facts of numbers and bytes, and small facts on what a call hands back: no program is spoken of.
  Two small facts: a block more, and a fact laid by. No program is spoken of.
  Strings made of byte slices: what 'string(b)' tells where b is a row of the call's own; rows that are filled place by place; what strings are as lists of numbers. No program is spoken of.
  Plain facts on texts as lists of numbers. No program is spoken of.
  Tokens of a text, as plain relations: where a run of bytes ends, which token stands at a place, what is passed over, and that each of these is one alone. No program is spoken of.
  Programs, as plain functions: what a row of tokens means. No program is spoken of.
  Plain facts on decimal digits. No program is spoken of.
  Texts of programs, as plain functions. No program is spoken of.
  An expression that is used once: the texts of all statements' expressions are together no longer than what all expressions cost. No program is spoken of.
-/
import Derived.WalkKit
import Derived.PlainAid
import Derived.Laws.BytesArg
import Derived.Lib.Strings
namespace Go.Proofs.Ytdbpknmoacjodaa
open Go.RowKit Go.PlainAid

def inB (a b c : Int) : Bool := decide (b ≤ a) && decide (a ≤ c)
theorem inB_yes {a b c : Int} (h : b ≤ a) (k : a ≤ c) : inB a b c = true := by simp [inB, h, k]
theorem inB_no {a b c : Int} (h : ¬ (b ≤ a ∧ a ≤ c)) : inB a b c = false := by
  simp only [inB, Bool.and_eq_false_iff, decide_eq_false_iff_not]; omega
theorem inB_iff {a b c : Int} : inB a b c = true ↔ b ≤ a ∧ a ≤ c := by simp [inB]

theorem ret_bool {a b : Bool} (h : a = b) : Ending.returned (.bool a) = .returned (.bool b) := by rw [h]
theorem ret_int {k : IntKind} {a b : Int} (h : a = b) : Ending.returned (.int k a) = .returned (.int k b) := by rw [h]
theorem ret_str {a b : ByteArray} (h : a = b) : Ending.returned (.string a) = .returned (.string b) := by rw [h]
theorem ret_int_bool {a b : Int} {c d : Bool} (h : a = b) (k : c = d) : Ending.returned (.tuple #[.int .i64 a, .bool c]) = .returned (.tuple #[.int .i64 b, .bool d]) := by rw [h, k]
theorem ret_int_int {a b c d : Int} (h : a = b) (k : c = d) : Ending.returned (.tuple #[.int .i64 a, .int .i64 c]) = .returned (.tuple #[.int .i64 b, .int .i64 d]) := by rw [h, k]
theorem ret_str_bool {a b : ByteArray} {c d : Bool} (h : a = b) (k : c = d) : Ending.returned (.tuple #[.string a, .bool c]) = .returned (.tuple #[.string b, .bool d]) := by rw [h, k]

def rfix (s : ByteArray) : Nat → Int
  | 0 => 0
  | k + 1 => rfix s k * 256 + bt s k
theorem rfix_step (s : ByteArray) (k : Nat) (B : Int) (h : 0 ≤ rfix s k ∧ rfix s k ≤ B) : 0 ≤ rfix s (k + 1) ∧ rfix s (k + 1) ≤ B * 256 + 255 := by
  have h0 := bt_nonneg s k
  have h1 := bt_le s k
  simp only [rfix]; omega
theorem rfix_lt (s : ByteArray) (k : Nat) (h : k ≤ 6) : 0 ≤ rfix s k ∧ rfix s k ≤ 281474976710655 := by
  have e0 : 0 ≤ rfix s 0 ∧ rfix s 0 ≤ 0 := by simp [rfix]
  have e1 := rfix_step s 0 _ e0
  have e2 := rfix_step s 1 _ e1
  have e3 := rfix_step s 2 _ e2
  have e4 := rfix_step s 3 _ e3
  have e5 := rfix_step s 4 _ e4
  have e6 := rfix_step s 5 _ e5
  simp only [Nat.zero_add, Nat.reduceAdd] at e1 e2 e3 e4 e5 e6
  match k, h with
  | 0, _ => omega
  | 1, _ => omega
  | 2, _ => omega
  | 3, _ => omega
  | 4, _ => omega
  | 5, _ => omega
  | 6, _ => omega
theorem or_byte (m b : Int) (h0 : 0 ≤ m) (h1 : m ≤ 281474976710655) (h2 : 0 ≤ b) (h3 : b ≤ 255) : bits .or .i64 (m * 256) b = m * 256 + b :=
  bits_join .i64 63 (by decide) (fun n a b => by rw [IntKind.wrap_i64]; omega) 8 (m * 256) b (by omega) (by omega) (by omega) h2 (by omega) (by omega)
def rfOk (s : ByteArray) (n : Int) : Bool := inB n 1 7 && decide (n ≤ s.size)
def rfV (s : ByteArray) (n : Int) : Int := if rfOk s n then rfix s n.toNat else 0
theorem rfOk_yes {s : ByteArray} {n : Int} (h1 : 1 ≤ n) (h7 : n ≤ 7) (hl : n ≤ s.size) : rfOk s n = true := by simp [rfOk, inB_yes h1 h7, hl]
theorem rfOk_no {s : ByteArray} {n : Int} (h : ¬ (1 ≤ n ∧ n ≤ 7 ∧ n ≤ s.size)) : rfOk s n = false := by
  simp only [rfOk, Bool.and_eq_false_iff, decide_eq_false_iff_not]
  by_cases k : 1 ≤ n ∧ n ≤ 7
  · exact .inr (by omega)
  · exact .inl (inB_no k)
theorem rfV_yes {s : ByteArray} {n : Int} (h1 : 1 ≤ n) (h7 : n ≤ 7) (hl : n ≤ s.size) : rfV s n = rfix s n.toNat := by simp [rfV, rfOk_yes h1 h7 hl]
theorem rfV_no {s : ByteArray} {n : Int} (h : ¬ (1 ≤ n ∧ n ≤ 7 ∧ n ≤ s.size)) : rfV s n = 0 := by simp [rfV, rfOk_no h]
end Go.Proofs.Ytdbpknmoacjodaa
namespace Go.Proofs.Ytdbpknmoacjodaa
open Go.RowKit Go.PlainAid

abbrev sNone : ByteArray := { data := #[] }
theorem alloc_size (w : World) (o : Obj) : (w.alloc o).heap.size = w.heap.size + 1 := by show (w.heap.push _).size = _; simp
theorem hidI {p : Prop} (h : p) : Hid p := h
theorem take_snoc {α : Type} {l : List α} {j : Nat} {x : α} (h : l[j]? = some x) : l.take (j + 1) = l.take j ++ [x] := by
  rw [List.take_add_one, h]
  rfl
end Go.Proofs.Ytdbpknmoacjodaa
namespace Go.Proofs.Ytdbpknmoacjodaa
open Go.RowKit Go.PlainAid

def OwnB (w : World) (base : Nat) (e : TypeId) (v : Value) (n : Nat) (xs : List Int) : Prop := w.ownsRow base e 1 v n (xs.map (Value.int .u8))

theorem run_string_own {P : Program} {w : World} {src dst e : TypeId} (hs : P.underlying src = some (.slice e)) (he : P.underlying e = some (.int .u8)) (hd : P.underlying dst = some .string)
    {base n : Nat} {v : Value} {xs : List Int} (h : OwnB w base e v n xs) : (convert src dst v).run P w = .ok (.string (strOfNums xs)) w := by
  obtain ⟨hl, hc⟩ := h
  rw [List.length_map, Nat.mul_one] at hl
  rcases hc with ⟨rfl, rfl⟩ | ⟨g, cap, cur, rfl, hb, hg, hn, hm, hcs, ht⟩
  · obtain rfl := List.length_eq_zero_iff.1 hl
    exact run_convert_bytes_nil w src e hs he 0 0 dst hd
  · refine run_convert_bytes_arg w src e hs he g 0 n cap xs hl (fun i hi => ?_) dst hd
    have hown : w.ownsRow base e 1 (.slice (some ⟨g, 0, none⟩) n cap) n (xs.map (Value.int .u8)) := ⟨by simpa using hl, .inr ⟨g, cap, cur, rfl, hb, hg, hn, hm, hcs, ht⟩⟩
    have := hown.cellAt i (by omega)
    rw [Nat.zero_add, this]
    simp [List.getD, List.getElem?_eq_getElem (show i < xs.length by omega)]

theorem run_string_one {P : Program} {src dst e : TypeId} (hs : P.underlying src = some (.slice e)) (he : P.underlying e = some (.int .u8)) (hd : P.underlying dst = some .string)
    (w : World) (x : Int) : (convert src dst (.slice (some ⟨w.heap.size, 0, none⟩) 1 1)).run P (w.alloc (.cells #[.int .u8 x] e)) = .ok (.string (strOfNums [x])) (w.alloc (.cells #[.int .u8 x] e)) := by
  refine run_convert_bytes_arg _ src e hs he w.heap.size 0 1 1 [x] rfl (fun i hi => ?_) dst hd
  obtain rfl : i = 0 := by omega
  rw [World.cell?_alloc_new]
  rfl

theorem strOfNums_append (xs ys : List Int) : strOfNums xs ++ strOfNums ys = strOfNums (xs ++ ys) := by
  unfold strOfNums
  rw [ByteArray.mk_append_mk, List.map_append]
theorem strOfNums_cons (x : Int) (ys : List Int) : strOfNums [x] ++ strOfNums ys = strOfNums (x :: ys) := strOfNums_append [x] ys
theorem strOfNums_nil : strOfNums [] = { data := #[] } := rfl

def fillTo (L : List Int) (k : Nat) : List Int := L.take k ++ List.replicate (L.length - k) 0
theorem fillTo_zero (L : List Int) : fillTo L 0 = List.replicate L.length 0 := by simp [fillTo]
theorem fillTo_full (L : List Int) (k : Nat) (h : L.length ≤ k) : fillTo L k = L := by
  simp [fillTo, List.take_of_length_le h, show L.length - k = 0 from by omega]
theorem fillTo_length (L : List Int) (k : Nat) (h : k ≤ L.length) : (fillTo L k).length = L.length := by simp [fillTo]; omega
theorem fillTo_set (L : List Int) (k : Nat) (x : Int) (h : k < L.length) (hx : L[k]? = some x) : (fillTo L k).set k x = fillTo L (k + 1) := by
  have hl : (L.take k).length = k := by simp; omega
  have hr : List.replicate (L.length - k) (0 : Int) = 0 :: List.replicate (L.length - (k + 1)) 0 := by
    rw [show L.length - k = (L.length - (k + 1)) + 1 from by omega, List.replicate_succ]
  have ht : L.take (k + 1) = L.take k ++ [x] := by rw [List.take_add_one, hx]; rfl
  unfold fillTo
  rw [List.set_append_right k x (by omega), hl, Nat.sub_self, hr, List.set_cons_zero, ht, List.append_assoc]
  rfl

def fillBack (L : List Int) (k : Nat) : List Int := List.replicate (L.length - k) 0 ++ L.drop (L.length - k)
theorem fillBack_zero (L : List Int) : fillBack L 0 = List.replicate L.length 0 := by simp [fillBack]
theorem fillBack_set (L : List Int) (k : Nat) (x : Int) (h : k < L.length) (hx : L[L.length - 1 - k]? = some x) : (fillBack L k).set (L.length - 1 - k) x = fillBack L (k + 1) := by
  have hr : List.replicate (L.length - k) (0 : Int) = List.replicate (L.length - (k + 1)) 0 ++ [0] := by
    rw [show L.length - k = (L.length - (k + 1)) + 1 from by omega, List.replicate_succ']
  have hd : L.drop (L.length - (k + 1)) = x :: L.drop (L.length - k) := by
    have e : L.length - (k + 1) = L.length - 1 - k := by omega
    rw [e]
    have hlt : L.length - 1 - k < L.length := by omega
    rw [List.drop_eq_getElem_cons hlt]
    rw [List.getElem?_eq_getElem hlt] at hx
    simp only [Option.some.injEq] at hx
    rw [hx, show L.length - 1 - k + 1 = L.length - k from by omega]
  unfold fillBack
  rw [hr, hd, List.append_assoc, List.set_append_right _ _ (by simp; omega), List.length_replicate, show L.length - 1 - k - (L.length - (k + 1)) = 0 from by omega]
  rfl

theorem own_set {w : World} {B g n cap : Nat} {e : TypeId} {L : List Int} (h : OwnB w B e (.slice (some ⟨g, 0, none⟩) n cap) n L) (j : Nat) (x : Int) :
    OwnB (w.setCell ⟨g, j, none⟩ (.int .u8 x)) B e (.slice (some ⟨g, 0, none⟩) n cap) n (L.set j x) := by
  unfold OwnB at h ⊢
  rw [List.map_set]
  exact (h.stored j (.int .u8 x)).1
theorem own_cell {w : World} {B g n cap : Nat} {e : TypeId} {L : List Int} (h : OwnB w B e (.slice (some ⟨g, 0, none⟩) n cap) n L) (j : Nat) (hj : j < n) : ∃ v, w.cell? ⟨g, j, none⟩ = some v := by
  unfold OwnB at h
  have hl := h.1
  rw [List.length_map, Nat.mul_one] at hl
  rw [h.cellAt j (by omega)]
  simp [List.getElem?_eq_getElem (show j < L.length by omega)]

theorem own_free {w : World} {B g n cap : Nat} {e : TypeId} {L : List Int} (h : OwnB w B e (.slice (some ⟨g, 0, none⟩) n cap) n L) (j : Nat) : w.frozen? ⟨g, j, none⟩ = false := World.ownsRow.frozenAt h j

def dl (n : Int) : Nat → List Int
  | 0 => []
  | k + 1 => (n / 2 ^ (8 * k) % 256) :: dl n k
theorem dl_length (n : Int) (k : Nat) : (dl n k).length = k := by
  induction k with
  | zero => rfl
  | succ k ih => simp [dl, ih]
theorem dl_at (n : Int) (m k : Nat) (h : k < m) : (dl n m)[k]? = some (n / 2 ^ (8 * (m - 1 - k)) % 256) := by
  induction m generalizing k with
  | zero => omega
  | succ m ih =>
    match k with
    | 0 => simp [dl]
    | k + 1 => rw [dl, List.getElem?_cons_succ, ih k (by omega), show m + 1 - 1 - (k + 1) = m - 1 - k from by omega]
theorem pow8 (k : Nat) : (2 : Int) ^ (8 * (k + 1)) = 2 ^ (8 * k) * 256 := by
  rw [show 8 * (k + 1) = 8 * k + 8 from by omega, Int.pow_add]; rfl
theorem pow8_pos (k : Nat) : (0 : Int) < 2 ^ (8 * k) := Int.pow_pos (by omega)
theorem shr8 (n : Int) (k : Nat) : n / 2 ^ (8 * k) / 256 = n / 2 ^ (8 * (k + 1)) := by
  rw [pow8, Int.ediv_ediv_of_nonneg (Int.le_of_lt (pow8_pos k))]
theorem shr8_bd (n : Int) (k : Nat) (h : 0 ≤ n) : 0 ≤ n / 2 ^ (8 * k) ∧ n / 2 ^ (8 * k) ≤ n :=
  ⟨Int.ediv_nonneg h (Int.le_of_lt (pow8_pos k)), Int.ediv_le_self _ h⟩
def fxOk (n m : Int) : Bool := inB m 1 7 && decide (0 ≤ n) && decide (n / 2 ^ (8 * m.toNat) = 0)
def fxL (n m : Int) : List Int := if fxOk n m then dl n m.toNat else []
theorem fxL_yes {n : Int} {m : Nat} (h1 : 1 ≤ m) (h7 : m ≤ 7) (h0 : 0 ≤ n) (hf : n / 2 ^ (8 * m) = 0) : fxL n m = dl n m := by
  simp [fxL, fxOk, h0, hf, inB_yes (a := (m : Int)) (b := 1) (c := 7) (by omega) (by omega)]
theorem fxL_no {n m : Int} (h : ¬ (1 ≤ m ∧ m ≤ 7 ∧ 0 ≤ n ∧ n / 2 ^ (8 * m.toNat) = 0)) : fxL n m = [] := by
  have : fxOk n m = false := by
    rw [Bool.eq_false_iff]
    intro k
    apply h
    simp only [fxOk, Bool.and_eq_true, decide_eq_true_eq, inB_iff] at k
    exact ⟨k.1.1.1, k.1.1.2, k.1.2, k.2⟩
  simp [fxL, this]
end Go.Proofs.Ytdbpknmoacjodaa
namespace Go.Proofs.Ytdbpknmoacjodaa
open Go.RowKit Go.PlainAid

theorem strOfNums_back (l : List Int) (h : ∀ x ∈ l, 0 ≤ x ∧ x ≤ 255) : (strOfNums l).data.toList.map (fun b => (b.toNat : Int)) = l := by
  rw [strOfNums_data, List.map_map]
  conv => rhs; rw [← List.map_id l]
  apply List.map_congr_left
  intro x hx
  have := h x hx
  simp only [Function.comp, id, UInt8.toNat_ofNat']
  omega
theorem strOfNums_inj {a b : List Int} (ha : ∀ x ∈ a, 0 ≤ x ∧ x ≤ 255) (hb : ∀ x ∈ b, 0 ≤ x ∧ x ≤ 255) (h : strOfNums a = strOfNums b) : a = b := by
  rw [← strOfNums_back a ha, ← strOfNums_back b hb, h]

def bsl (s : ByteArray) : Nat → Nat → List Int
  | _, 0 => []
  | i, m + 1 => bt s i :: bsl s (i + 1) m
theorem bsl_length (s : ByteArray) (i m : Nat) : (bsl s i m).length = m := by
  induction m generalizing i with
  | zero => rfl
  | succ m ih => simp [bsl, ih]
theorem bsl_bd (s : ByteArray) (i m : Nat) : ∀ x ∈ bsl s i m, 0 ≤ x ∧ x ≤ 255 := by
  induction m generalizing i with
  | zero => simp [bsl]
  | succ m ih =>
    intro x hx
    simp only [bsl, List.mem_cons] at hx
    rcases hx with rfl | hx
    · exact ⟨bt_nonneg s i, bt_le s i⟩
    · exact ih (i + 1) x hx
theorem ofNat_bt (s : ByteArray) (i : Nat) (h : i < s.data.toList.length) : UInt8.ofNat (bt s i).toNat = s.data.toList[i] := by
  have hs : i < s.size := by simpa using h
  rw [← get_bt s i hs, Int.toNat_natCast, UInt8.ofNat_toNat]
  rfl
theorem bsl_data (s : ByteArray) (i m : Nat) (h : i + m ≤ s.size) : (bsl s i m).map (fun n => UInt8.ofNat n.toNat) = (s.data.toList.drop i).take m := by
  induction m generalizing i with
  | zero => simp [bsl]
  | succ m ih =>
    have hl : i < s.data.toList.length := by rw [Array.length_toList]; exact Nat.lt_of_lt_of_le (show i < i + (m + 1) by omega) h
    rw [bsl, List.map_cons, ih (i + 1) (by omega), List.drop_eq_getElem_cons hl, List.take_succ_cons, ofNat_bt s i hl]
theorem extract_bsl (s : ByteArray) (k : Nat) (h : k ≤ s.size) : s.extract 0 k = strOfNums (bsl s 0 k) := by
  have e : (s.extract 0 k).data.toList = (strOfNums (bsl s 0 k)).data.toList := by
    rw [Lib.extract_data, strOfNums_data, bsl_data s 0 k (by omega), Nat.sub_zero]
  have e2 : (s.extract 0 k).data = (strOfNums (bsl s 0 k)).data := by
    rw [← Array.toArray_toList (xs := (s.extract 0 k).data), e, Array.toArray_toList]
  have cl : ∀ a b : ByteArray, a.data = b.data → a = b := by rintro ⟨a⟩ ⟨b⟩ h; cases h; rfl
  exact cl _ _ e2
theorem bytes_ext {a b : ByteArray} (h : a.data.toList = b.data.toList) : a = b := by
  obtain ⟨⟨a⟩⟩ := a
  obtain ⟨⟨b⟩⟩ := b
  simp only at h
  rw [h]
theorem toList_eq_iff (a b : ByteArray) : (a.toList == b.toList) = true ↔ a = b := by
  rw [beq_iff_eq, Lib.toList_data, Lib.toList_data]
  exact ⟨bytes_ext, fun h => by rw [h]⟩
theorem toList_ne {a b : ByteArray} (h : a ≠ b) : (a.toList == b.toList) = false := by
  rw [Bool.eq_false_iff]
  exact fun k => h ((toList_eq_iff a b).1 k)
theorem bsl_snoc (s : ByteArray) (i m : Nat) : bsl s i (m + 1) = bsl s i m ++ [bt s (i + m)] := by
  induction m generalizing i with
  | zero => simp [bsl]
  | succ m ih =>
    rw [bsl, ih (i + 1), bsl, show i + 1 + m = i + (m + 1) from by omega]
    rfl
theorem bsl_at (s : ByteArray) (i m k : Nat) (h : k < m) : (bsl s i m)[k]? = some (bt s (i + k)) := by
  induction m generalizing i k with
  | zero => omega
  | succ m ih =>
    match k with
    | 0 => simp [bsl]
    | k + 1 => rw [bsl, List.getElem?_cons_succ, ih (i + 1) k (by omega), show i + 1 + k = i + (k + 1) from by omega]
theorem all_bsl (s : ByteArray) : s = strOfNums (bsl s 0 s.size) := by
  rw [← extract_bsl s s.size (Nat.le_refl _)]
  refine bytes_ext ?_
  rw [Lib.extract_data, List.drop_zero, Nat.sub_zero, List.take_of_length_le]
  rw [Array.length_toList]
  exact Nat.le_refl _
theorem bt_list (s : ByteArray) (k : Nat) : bt s k = (s.data.toList.map (fun b => (b.toNat : Int))).getD k 0 := by
  unfold bt
  by_cases h : k < s.size
  · rw [dif_pos h]
    have hl : k < s.data.toList.length := by rw [Array.length_toList]; exact h
    simp only [List.getD, List.getElem?_map, List.getElem?_eq_getElem hl, Option.map_some, Option.getD_some]
    rfl
  · rw [dif_neg h]
    have hl : s.data.toList.length ≤ k := by rw [Array.length_toList]; exact Nat.le_of_not_lt h
    simp [List.getD, List.getElem?_eq_none hl]
theorem append_list (a b : ByteArray) : (a ++ b).data.toList = a.data.toList ++ b.data.toList := by
  obtain ⟨⟨a⟩⟩ := a
  obtain ⟨⟨b⟩⟩ := b
  rw [ByteArray.mk_append_mk]
end Go.Proofs.Ytdbpknmoacjodaa
namespace Go.Proofs.Ytdbpknmoacjodaa
open Go.RowKit Go.PlainAid

def letB (c : Int) (scr : Bool) : Bool := decide (97 ≤ c ∧ c ≤ 122) || decide (65 ≤ c ∧ c ≤ 90) || decide (c = 95) || (scr && decide (c = 36))
def digB (c : Int) : Bool := decide (48 ≤ c ∧ c ≤ 57)
def worB (scr : Bool) (c : Int) : Bool := letB c scr || digB c
def notNl (c : Int) : Bool := decide (c ≠ 10)
abbrev Blank (c : Int) : Prop := c = 9 ∨ c = 10 ∨ c = 13 ∨ c = 32
abbrev Sign (c : Int) : Prop := c = 123 ∨ c = 125 ∨ c = 40 ∨ c = 41 ∨ c = 44 ∨ c = 59 ∨ c = 61 ∨ c = 46 ∨ c = 42 ∨ c = 43 ∨ c = 45
abbrev InStr (c : Int) : Prop := 32 ≤ c ∧ c ≤ 126 ∧ c ≠ 34 ∧ c ≠ 92
theorem letB_iff {c : Int} {scr : Bool} : letB c scr = true ↔ (97 ≤ c ∧ c ≤ 122) ∨ (65 ≤ c ∧ c ≤ 90) ∨ c = 95 ∨ (scr = true ∧ c = 36) := by simp [letB, or_assoc]
theorem digB_iff {c : Int} : digB c = true ↔ 48 ≤ c ∧ c ≤ 57 := by simp [digB]

def RunEnd (p : Int → Bool) (s : ByteArray) (a e : Nat) : Prop := a ≤ e ∧ e ≤ s.size ∧ (∀ j, a ≤ j → j < e → p (bt s j) = true) ∧ (e < s.size → p (bt s e) = false)
theorem runEnd_one {p : Int → Bool} {s : ByteArray} {a e1 e2 : Nat} (h1 : RunEnd p s a e1) (h2 : RunEnd p s a e2) : e1 = e2 := by
  obtain ⟨a1, b1, c1, d1⟩ := h1
  obtain ⟨a2, b2, c2, d2⟩ := h2
  rcases Nat.lt_trichotomy e1 e2 with h | h | h
  · have := c2 e1 a1 h
    rw [d1 (by omega)] at this
    cases this
  · exact h
  · have := c1 e2 a2 h
    rw [d2 (by omega)] at this
    cases this
def dval (s : ByteArray) (a : Nat) : Nat → Int
  | 0 => 0
  | k + 1 => dval s a k * 10 + (bt s (a + k) - 48)
def NumAt (s : ByteArray) (a : Nat) (scr : Bool) (n : Int) (e : Nat) : Prop :=
  RunEnd digB s a e ∧ a < e ∧ (e = a + 1 ∨ bt s a ≠ 48) ∧ n = dval s a (e - a) ∧ n ≤ 1000000 ∧ (e < s.size → letB (bt s e) scr = false)
theorem numAt_one {s : ByteArray} {a : Nat} {scr : Bool} {n1 n2 : Int} {e1 e2 : Nat} (h1 : NumAt s a scr n1 e1) (h2 : NumAt s a scr n2 e2) : n1 = n2 ∧ e1 = e2 := by
  have he := runEnd_one h1.1 h2.1
  subst he
  exact ⟨h1.2.2.2.1.trans h2.2.2.2.1.symm, rfl⟩
theorem dval_mono {s : ByteArray} {a : Nat} (k m : Nat) (hd : ∀ j, j < m → 48 ≤ bt s (a + j)) (hk : k ≤ m) : 0 ≤ dval s a k ∧ dval s a k ≤ dval s a m := by
  have h0 : ∀ m, (∀ j, j < m → 48 ≤ bt s (a + j)) → 0 ≤ dval s a m := by
    intro m
    induction m with
    | zero => intro _; exact Int.le_refl _
    | succ m ih =>
      intro h
      have h1 := ih (fun j hj => h j (by omega))
      have h2 := h m (by omega)
      show 0 ≤ dval s a m * 10 + (bt s (a + m) - 48)
      omega
  induction m with
  | zero =>
    obtain rfl : k = 0 := by omega
    exact ⟨Int.le_refl _, Int.le_refl _⟩
  | succ m ih =>
    by_cases e : k = m + 1
    · subst e
      exact ⟨h0 _ hd, Int.le_refl _⟩
    · obtain ⟨h1, h2⟩ := ih (fun j hj => hd j (by omega)) (by omega)
      have h3 := hd m (by omega)
      refine ⟨h1, ?_⟩
      show _ ≤ dval s a m * 10 + (bt s (a + m) - 48)
      omega
def StrAt (s : ByteArray) (a e : Nat) : Prop := a + 2 ≤ e ∧ e ≤ s.size ∧ e ≤ a + 42 ∧ bt s (e - 1) = 34 ∧ ∀ j, a < j → j + 1 < e → InStr (bt s j)
theorem strAt_one {s : ByteArray} {a e1 e2 : Nat} (h1 : StrAt s a e1) (h2 : StrAt s a e2) : e1 = e2 := by
  obtain ⟨a1, b1, c1, d1, f1⟩ := h1
  obtain ⟨a2, b2, c2, d2, f2⟩ := h2
  rcases Nat.lt_trichotomy e1 e2 with h | h | h
  · exact absurd d1 (f2 (e1 - 1) (by omega) (by omega)).2.2.1
  · exact h
  · exact absurd d2 (f1 (e2 - 1) (by omega) (by omega)).2.2.1

structure Tk where
  kind : Int
  text : ByteArray
  num : Int
  pos : Nat
def Tok (s : ByteArray) (scr : Bool) (a : Nat) (t : Tk) (e : Nat) : Prop :=
  (letB (bt s a) scr = true ∧ RunEnd (worB scr) s a e ∧ t = ⟨1, s.extract a e, 0, a⟩) ∨ (∃ n, digB (bt s a) = true ∧ NumAt s a scr n e ∧ t = ⟨2, { data := #[] }, n, a⟩) ∨ (bt s a = 34 ∧ StrAt s a e ∧ t = ⟨3, s.extract (a + 1) (e - 1), 0, a⟩) ∨ (Sign (bt s a) ∧ t = ⟨4, s.extract a (a + 1), 0, a⟩ ∧ e = a + 1)
theorem Tok.name {s : ByteArray} {scr : Bool} {a e : Nat} (h : letB (bt s a) scr = true) (he : RunEnd (worB scr) s a e) : Tok s scr a ⟨1, s.extract a e, 0, a⟩ e := .inl ⟨h, he, rfl⟩
theorem Tok.num {s : ByteArray} {scr : Bool} {a e : Nat} {n : Int} (h : digB (bt s a) = true) (he : NumAt s a scr n e) : Tok s scr a ⟨2, { data := #[] }, n, a⟩ e := .inr (.inl ⟨n, h, he, rfl⟩)
theorem Tok.str {s : ByteArray} {scr : Bool} {a e : Nat} (h : bt s a = 34) (he : StrAt s a e) : Tok s scr a ⟨3, s.extract (a + 1) (e - 1), 0, a⟩ e := .inr (.inr (.inl ⟨h, he, rfl⟩))
theorem Tok.sign {s : ByteArray} {scr : Bool} {a : Nat} (h : Sign (bt s a)) : Tok s scr a ⟨4, s.extract a (a + 1), 0, a⟩ (a + 1) := .inr (.inr (.inr ⟨h, rfl, rfl⟩))
theorem Tok.elim {s : ByteArray} {scr : Bool} {a : Nat} {motive : (t : Tk) → (e : Nat) → Tok s scr a t e → Prop} {t : Tk} {e : Nat} (h : Tok s scr a t e) (name : ∀ {e : Nat} (h : letB (bt s a) scr = true) (he : RunEnd (worB scr) s a e), motive _ e (.name h he)) (num : ∀ {n : Int} {e : Nat} (h : digB (bt s a) = true) (he : NumAt s a scr n e), motive _ e (.num h he)) (str : ∀ {e : Nat} (h : bt s a = 34) (he : StrAt s a e), motive _ e (.str h he)) (sign : ∀ (h : Sign (bt s a)), motive _ _ (.sign h)) : motive t e h := by
  rcases h with ⟨h1, h2, rfl⟩ | ⟨n, h1, h2, rfl⟩ | ⟨h1, h2, rfl⟩ | ⟨h1, rfl, rfl⟩
  · exact name h1 h2
  · exact num h1 h2
  · exact str h1 h2
  · exact sign h1
theorem let_dig {c : Int} {scr : Bool} (h : letB c scr = true) : digB c = false ∧ c ≠ 34 ∧ ¬ Sign c := by
  rw [letB_iff] at h
  refine ⟨decide_eq_false (by omega), by omega, by unfold Sign; omega⟩
theorem dig_str {c : Int} (h : digB c = true) : c ≠ 34 ∧ ¬ Sign c := by
  rw [digB_iff] at h
  exact ⟨by omega, by unfold Sign; omega⟩
theorem tok_one {s : ByteArray} {scr : Bool} {a : Nat} {t1 t2 : Tk} {e1 e2 : Nat} (h1 : Tok s scr a t1 e1) (h2 : Tok s scr a t2 e2) : t1 = t2 ∧ e1 = e2 := by
  cases h1 using Tok.elim with
  | name h he =>
    have hd := let_dig h
    cases h2 using Tok.elim with
    | name h' he' => have := runEnd_one he he'; subst this; exact ⟨rfl, rfl⟩
    | num h' he' => rw [hd.1] at h'; cases h'
    | str h' he' => exact absurd h' hd.2.1
    | sign h' => exact absurd h' hd.2.2
  | num h he =>
    have hd := dig_str h
    cases h2 using Tok.elim with
    | name h' he' => rw [(let_dig h').1] at h; cases h
    | num h' he' => obtain ⟨rfl, rfl⟩ := numAt_one he he'; exact ⟨rfl, rfl⟩
    | str h' he' => exact absurd h' hd.1
    | sign h' => exact absurd h' hd.2
  | str h he =>
    cases h2 using Tok.elim with
    | name h' he' => exact absurd h (let_dig h').2.1
    | num h' he' => exact absurd h (dig_str h').1
    | str h' he' => have := strAt_one he he'; subst this; exact ⟨rfl, rfl⟩
    | sign h' => rw [h] at h'; unfold Sign at h'; omega
  | sign h =>
    cases h2 using Tok.elim with
    | name h' he' => exact absurd h (let_dig h').2.2
    | num h' he' => exact absurd h (dig_str h').2
    | str h' he' => rw [h'] at h; unfold Sign at h; omega
    | sign h' => exact ⟨rfl, rfl⟩
theorem tok_end {s : ByteArray} {scr : Bool} {a : Nat} {t : Tk} {e : Nat} (ha : a < s.size) (h : Tok s scr a t e) : a < e ∧ e ≤ s.size ∧ t.pos = a := by
  cases h using Tok.elim with
  | name h he =>
    refine ⟨?_, he.2.1, rfl⟩
    rcases Nat.lt_or_ge a e with k | k
    · exact k
    · have e1 : e = a := by have := he.1; omega
      subst e1
      have := he.2.2.2 ha
      simp [worB, h] at this
  | num h he => exact ⟨he.2.1, he.1.2.1, rfl⟩
  | str h he => exact ⟨by have := he.1; omega, he.2.1, rfl⟩
  | sign h => exact ⟨by omega, by omega, rfl⟩

abbrev Slashes (s : ByteArray) (a : Nat) : Prop := bt s a = 47 ∧ a + 1 < s.size ∧ bt s (a + 1) = 47
def SkipK (s : ByteArray) (P : Nat → Nat → Prop) : Prop := P s.size s.size ∧ (∀ a, a < s.size → ¬ Blank (bt s a) → ¬ Slashes s a → P a a) ∧ (∀ a b, a < s.size → Blank (bt s a) → P (a + 1) b → P a b) ∧ ∀ a c b, a < s.size → Slashes s a → RunEnd notNl s a c → P c b → P a b
def Skip (s : ByteArray) (a b : Nat) : Prop := ∀ P, SkipK s P → P a b
theorem Skip.done {s : ByteArray} : Skip s s.size s.size := fun _ k => k.1
theorem Skip.stop {s : ByteArray} {a : Nat} (h : a < s.size) (h1 : ¬ Blank (bt s a)) (h2 : ¬ Slashes s a) : Skip s a a := fun _ k => k.2.1 a h h1 h2
theorem Skip.blank {s : ByteArray} {a b : Nat} (h : a < s.size) (h1 : Blank (bt s a)) (r : Skip s (a + 1) b) : Skip s a b := fun P k => k.2.2.1 a b h h1 (r P k)
theorem Skip.comment {s : ByteArray} {a c b : Nat} (h : a < s.size) (h1 : Slashes s a) (hc : RunEnd notNl s a c) (r : Skip s c b) : Skip s a b := fun P k => k.2.2.2 a c b h h1 hc (r P k)
theorem Skip.ind {s : ByteArray} {motive : (a b : Nat) → Skip s a b → Prop} {a b : Nat} (h : Skip s a b) (done : motive _ _ .done) (stop : ∀ {a : Nat} (h : a < s.size) (h1 : ¬ Blank (bt s a)) (h2 : ¬ Slashes s a), motive a a (.stop h h1 h2)) (blank : ∀ {a b : Nat} (h : a < s.size) (h1 : Blank (bt s a)) (r : Skip s (a + 1) b), motive _ _ r → motive a b (.blank h h1 r)) (comment : ∀ {a c b : Nat} (h : a < s.size) (h1 : Slashes s a) (hc : RunEnd notNl s a c) (r : Skip s c b), motive _ _ r → motive a b (.comment h h1 hc r)) : motive a b h :=
  (h (fun a b => ∃ k, motive a b k) ⟨⟨_, done⟩, fun _ h h1 h2 => ⟨_, stop h h1 h2⟩, fun _ _ h h1 ⟨r, k⟩ => ⟨_, blank h h1 r k⟩, fun _ _ _ h h1 hc ⟨r, k⟩ => ⟨_, comment h h1 hc r k⟩⟩).2
theorem Skip.elim {s : ByteArray} {motive : (a b : Nat) → Skip s a b → Prop} {a b : Nat} (h : Skip s a b) (done : motive _ _ .done) (stop : ∀ {a : Nat} (h : a < s.size) (h1 : ¬ Blank (bt s a)) (h2 : ¬ Slashes s a), motive a a (.stop h h1 h2)) (blank : ∀ {a b : Nat} (h : a < s.size) (h1 : Blank (bt s a)) (r : Skip s (a + 1) b), motive a b (.blank h h1 r)) (comment : ∀ {a c b : Nat} (h : a < s.size) (h1 : Slashes s a) (hc : RunEnd notNl s a c) (r : Skip s c b), motive a b (.comment h h1 hc r)) : motive a b h :=
  h.ind done stop (fun h h1 r _ => blank h h1 r) (fun h h1 hc r _ => comment h h1 hc r)
theorem slash_blank {s : ByteArray} {a : Nat} (h : Slashes s a) : ¬ Blank (bt s a) := by rw [h.1]; unfold Blank; omega
theorem skip_one {s : ByteArray} {a b1 b2 : Nat} (h1 : Skip s a b1) : Skip s a b2 → b1 = b2 := by
  induction h1 using Skip.ind with
  | done =>
    intro h2
    generalize hx : s.size = x at h2
    cases h2 using Skip.elim with
    | done => rfl
    | stop h _ _ => omega
    | blank h _ _ => omega
    | comment h _ _ _ => omega
  | stop h k1 k2 =>
    intro h2
    cases h2 using Skip.elim with
    | done => rfl
    | stop _ _ _ => rfl
    | blank _ k _ => exact absurd k k1
    | comment _ k _ _ => exact absurd k k2
  | blank h k _ ih =>
    intro h2
    cases h2 using Skip.elim with
    | done => exact absurd h (Nat.lt_irrefl _)
    | stop _ k1 _ => exact absurd k k1
    | blank _ _ r => exact ih r
    | comment _ k1 _ _ => exact absurd k (slash_blank k1)
  | comment h k hc _ ih =>
    intro h2
    cases h2 using Skip.elim with
    | done => exact absurd h (Nat.lt_irrefl _)
    | stop _ _ k2 => exact absurd k k2
    | blank _ k1 _ => exact absurd k1 (slash_blank k)
    | comment _ _ hc' r => have := runEnd_one hc hc'; subst this; exact ih r
theorem skip_bd {s : ByteArray} {a b : Nat} (h : Skip s a b) : a ≤ b ∧ b ≤ s.size := by
  induction h using Skip.ind with
  | done => exact ⟨Nat.le_refl _, Nat.le_refl _⟩
  | stop h _ _ => exact ⟨Nat.le_refl _, by omega⟩
  | blank h _ _ ih => exact ⟨by omega, ih.2⟩
  | comment h _ hc _ ih => exact ⟨by have := hc.1; omega, ih.2⟩

def LxK (s : ByteArray) (scr : Bool) (P : Nat → Nat → Except Nat (List Tk) → Prop) : Prop := (∀ n, P s.size n (.ok [])) ∧ (∀ a n, a < s.size → (4000 ≤ n ∨ ∀ t e, ¬ Tok s scr a t e) → P a n (.error a)) ∧ ∀ a n e b t r, a < s.size → n < 4000 → Tok s scr a t e → Skip s e b → P b (n + 1) r → P a n (r.map (t :: ·))
def Lx (s : ByteArray) (scr : Bool) (a n : Nat) (r : Except Nat (List Tk)) : Prop := ∀ P, LxK s scr P → P a n r
theorem Lx.done {s : ByteArray} {scr : Bool} {n : Nat} : Lx s scr s.size n (.ok []) := fun _ k => k.1 n
theorem Lx.bad {s : ByteArray} {scr : Bool} {a n : Nat} (h : a < s.size) (h1 : 4000 ≤ n ∨ ∀ t e, ¬ Tok s scr a t e) : Lx s scr a n (.error a) := fun _ k => k.2.1 a n h h1
theorem Lx.tok {s : ByteArray} {scr : Bool} {a n e b : Nat} {t : Tk} {r : Except Nat (List Tk)} (h : a < s.size) (hn : n < 4000) (ht : Tok s scr a t e) (hs : Skip s e b) (hr : Lx s scr b (n + 1) r) : Lx s scr a n (r.map (t :: ·)) := fun P k => k.2.2 a n e b t r h hn ht hs (hr P k)
theorem Lx.ind {s : ByteArray} {scr : Bool} {motive : (a n : Nat) → (r : Except Nat (List Tk)) → Lx s scr a n r → Prop} {a n : Nat} {r : Except Nat (List Tk)} (h : Lx s scr a n r) (done : ∀ {n : Nat}, motive _ n _ .done) (bad : ∀ {a n : Nat} (h : a < s.size) (h1 : 4000 ≤ n ∨ ∀ t e, ¬ Tok s scr a t e), motive a n _ (.bad h h1)) (tok : ∀ {a n e b : Nat} {t : Tk} {r : Except Nat (List Tk)} (h : a < s.size) (hn : n < 4000) (ht : Tok s scr a t e) (hs : Skip s e b) (hr : Lx s scr b (n + 1) r), motive _ _ _ hr → motive a n _ (.tok h hn ht hs hr)) : motive a n r h :=
  (h (fun a n r => ∃ k, motive a n r k) ⟨fun _ => ⟨_, done⟩, fun _ _ h h1 => ⟨_, bad h h1⟩, fun _ _ _ _ _ _ h hn ht hs ⟨hr, k⟩ => ⟨_, tok h hn ht hs hr k⟩⟩).2
theorem Lx.elim {s : ByteArray} {scr : Bool} {motive : (a n : Nat) → (r : Except Nat (List Tk)) → Lx s scr a n r → Prop} {a n : Nat} {r : Except Nat (List Tk)} (h : Lx s scr a n r) (done : ∀ {n : Nat}, motive _ n _ .done) (bad : ∀ {a n : Nat} (h : a < s.size) (h1 : 4000 ≤ n ∨ ∀ t e, ¬ Tok s scr a t e), motive a n _ (.bad h h1)) (tok : ∀ {a n e b : Nat} {t : Tk} {r : Except Nat (List Tk)} (h : a < s.size) (hn : n < 4000) (ht : Tok s scr a t e) (hs : Skip s e b) (hr : Lx s scr b (n + 1) r), motive a n _ (.tok h hn ht hs hr)) : motive a n r h :=
  h.ind done bad (fun h hn ht hs hr _ => tok h hn ht hs hr)
theorem lx_one {s : ByteArray} {scr : Bool} {a n : Nat} {r1 r2 : Except Nat (List Tk)} (h1 : Lx s scr a n r1) : Lx s scr a n r2 → r1 = r2 := by
  induction h1 using Lx.ind generalizing r2 with
  | done =>
    intro h2
    generalize hx : s.size = x at h2
    cases h2 using Lx.elim with
    | done => rfl
    | bad h _ => omega
    | tok h _ _ _ _ => omega
  | bad h k =>
    intro h2
    cases h2 using Lx.elim with
    | done => exact absurd h (Nat.lt_irrefl _)
    | bad _ _ => rfl
    | tok _ hn ht _ _ => exact k.elim (fun k => by omega) fun k => absurd ht (k _ _)
  | tok h hn ht hs _ ih =>
    intro h2
    cases h2 using Lx.elim with
    | done => exact absurd h (Nat.lt_irrefl _)
    | bad _ k => exact k.elim (fun k => by omega) fun k => absurd ht (k _ _)
    | tok _ _ ht' hs' r =>
      obtain ⟨rfl, rfl⟩ := tok_one ht ht'
      have := skip_one hs hs'
      subst this
      rw [ih r]
def LexR (s : ByteArray) (scr : Bool) (r : Except Nat (List Tk)) : Prop := ∃ a, Skip s 0 a ∧ Lx s scr a 0 r
theorem lexR_one {s : ByteArray} {scr : Bool} {r1 r2 : Except Nat (List Tk)} (h1 : LexR s scr r1) (h2 : LexR s scr r2) : r1 = r2 := by
  obtain ⟨a, s1, l1⟩ := h1
  obtain ⟨b, s2, l2⟩ := h2
  have := skip_one s1 s2
  subst this
  exact lx_one l1 l2
end Go.Proofs.Ytdbpknmoacjodaa
namespace Go.Proofs.Ytdbpknmoacjodaa
open Go.RowKit Go.PlainAid

structure Ex where
  kind : Int
  num : Int
  name : ByteArray
  field : ByteArray
  l : Int
  r : Int
structure Sm where
  kind : Int
  name : ByteArray
  expr : Int
structure Im where
  spec : ByteArray
  first : ByteArray
  loc : ByteArray
structure Ep where
  kind : Int
  name : ByteArray
  loc : ByteArray
  spec : ByteArray
structure Cx where
  ts : List Tk
  fin : Nat
  scr : Bool
structure PS where
  pos : Nat
  rq : List ByteArray
  im : List Im
  ep : List Ep
  st : List Sm
  ex : List Ex
  la : List Ep
abbrev PR := Except Nat PS

abbrev sImport : ByteArray := { data := #[105, 109, 112, 111, 114, 116] }
abbrev sExport : ByteArray := { data := #[101, 120, 112, 111, 114, 116] }
abbrev sDefault : ByteArray := { data := #[100, 101, 102, 97, 117, 108, 116] }
abbrev sLet : ByteArray := { data := #[108, 101, 116] }
abbrev sFunction : ByteArray := { data := #[102, 117, 110, 99, 116, 105, 111, 110] }
abbrev sReturn : ByteArray := { data := #[114, 101, 116, 117, 114, 110] }
abbrev sPrint : ByteArray := { data := #[112, 114, 105, 110, 116] }
abbrev sThrow : ByteArray := { data := #[116, 104, 114, 111, 119] }
abbrev sFail : ByteArray := { data := #[102, 97, 105, 108] }
abbrev sUndef : ByteArray := { data := #[117, 110, 100, 101, 102] }
abbrev sAs : ByteArray := { data := #[97, 115] }
abbrev sFrom : ByteArray := { data := #[102, 114, 111, 109] }
abbrev sDefName : ByteArray := { data := #[42, 100, 101, 102, 97, 117, 108, 116] }
abbrev cOpen : ByteArray := { data := #[40] }
abbrev cShut : ByteArray := { data := #[41] }
abbrev cStar : ByteArray := { data := #[42] }
abbrev cPlus : ByteArray := { data := #[43] }
abbrev cComma : ByteArray := { data := #[44] }
abbrev cMinus : ByteArray := { data := #[45] }
abbrev cPoint : ByteArray := { data := #[46] }
abbrev cSemi : ByteArray := { data := #[59] }
abbrev cEq : ByteArray := { data := #[61] }
abbrev cLeft : ByteArray := { data := #[123] }
abbrev cRight : ByteArray := { data := #[125] }

def bd {α β : Type} (x : Except Nat α) (f : α → Except Nat β) : Except Nat β :=
  match x with
  | .ok a => f a
  | .error e => .error e
theorem bd_ok {α β : Type} (a : α) (f : α → Except Nat β) : bd (.ok a) f = f a := rfl
theorem bd_error {α β : Type} (e : Nat) (f : α → Except Nat β) : bd (.error e) f = .error e := rfl
theorem bd_bd {α β γ : Type} (x : Except Nat α) (f : α → Except Nat β) (g : β → Except Nat γ) : bd (bd x f) g = bd x fun a => bd (f a) g := by cases x <;> rfl
theorem bd_congr {α β : Type} {x : Except Nat α} {f g : α → Except Nat β} (h : ∀ a, x = .ok a → f a = g a) : bd x f = bd x g := by
  cases x with
  | ok a => exact h a rfl
  | error e => rfl
theorem bd_eq_ok {α β : Type} {x : Except Nat α} {f : α → Except Nat β} {b : β} (h : bd x f = .ok b) : ∃ a, x = .ok a ∧ f a = .ok b := by
  cases x with
  | ok a => exact ⟨a, rfl, h⟩
  | error e => cases h

def tokAt (C : Cx) (i : Nat) : Tk := C.ts.getD i ⟨0, sNone, 0, C.fin⟩
def here (C : Cx) (i : Nat) : Nat := (tokAt C i).pos
def isT (C : Cx) (i : Nat) (k : Int) (x : ByteArray) : Bool := ((tokAt C i).kind == k) && ((tokAt C i).text.toList == x.toList)
def adv (q : PS) : PS := { q with pos := q.pos + 1 }
def tokP (C : Cx) (k : Int) (x : ByteArray) (q : PS) : PR := if isT C q.pos k x then .ok (adv q) else .error (here C q.pos)
def resB (x : ByteArray) (scr : Bool) : Bool :=
  x.toList == [105, 109, 112, 111, 114, 116] || x.toList == [101, 120, 112, 111, 114, 116] || x.toList == [100, 101, 102, 97, 117, 108, 116] || x.toList == [108, 101, 116] || x.toList == [102, 117, 110, 99, 116, 105, 111, 110] || x.toList == [114, 101, 116, 117, 114, 110] || x.toList == [112, 114, 105, 110, 116] || x.toList == [116, 104, 114, 111, 119]
    || ((x.toList == [102, 97, 105, 108] || x.toList == [117, 110, 100, 101, 102]) && scr)
def plainB (C : Cx) (i : Nat) (o : Bool) : Bool := ((tokAt C i).kind == 1) && (!resB (tokAt C i).text C.scr || (o && ((tokAt C i).text.toList == [100, 101, 102, 97, 117, 108, 116])))
def nameP (C : Cx) (o : Bool) (q : PS) : Except Nat (PS × ByteArray) := if plainB C q.pos o then .ok (adv q, (tokAt C q.pos).text) else .error (here C q.pos)
def hasS (l : List ByteArray) (x : ByteArray) : Bool := l.any fun y => y.toList == x.toList
def specP (C : Cx) (q : PS) : Except Nat (PS × ByteArray) :=
  if (tokAt C q.pos).kind == 3 then
    if hasS q.rq (tokAt C q.pos).text then .ok (adv q, (tokAt C q.pos).text)
    else if 40 ≤ q.rq.length then .error (here C q.pos)
    else .ok ({ adv q with rq := q.rq ++ [(tokAt C q.pos).text] }, (tokAt C q.pos).text)
  else .error (here C q.pos)
def addIm (C : Cx) (x : Im) (q : PS) : PR := if 40 ≤ q.im.length then .error (here C (q.pos - 1)) else .ok { q with im := q.im ++ [x] }
def addEp (C : Cx) (x : Ep) (q : PS) : PR :=
  if 40 ≤ q.ep.length + q.la.length then .error (here C (q.pos - 1))
  else if x.loc.toList == [42, 100, 101, 102, 97, 117, 108, 116] then .ok { q with la := q.la ++ [x] } else .ok { q with ep := q.ep ++ [x] }
def addSt (C : Cx) (k : Int) (n : ByteArray) (q : PS) : PR := if 80 ≤ q.st.length then .error (here C (q.pos - 1)) else .ok { q with st := q.st ++ [⟨k, n, (q.ex.length : Int) - 1⟩] }
def addEx (C : Cx) (x : Ex) (q : PS) : PR := if 300 ≤ q.ex.length then .error (here C (q.pos - 1)) else .ok { q with ex := q.ex ++ [x] }
def tailP (C : Cx) (n : ByteArray) (q : PS) : PR :=
  if isT C q.pos 4 cOpen then bd (bd (tokP C 4 cOpen q) (tokP C 4 cShut)) (addEx C ⟨3, 0, n, sNone, 0, 0⟩) else addEx C ⟨2, 0, n, sNone, 0, 0⟩ q
def memP (C : Cx) (n f : ByteArray) (q : PS) : PR :=
  if isT C q.pos 4 cOpen then bd (bd (tokP C 4 cOpen q) (tokP C 4 cShut)) (addEx C ⟨5, 0, n, f, 0, 0⟩) else addEx C ⟨4, 0, n, f, 0, 0⟩ q

abbrev NT : Type := Option (Option (Option (Option Unit)))
abbrev NT.sum : NT := none
abbrev NT.sumT : NT := some none
abbrev NT.prod : NT := some (some none)
abbrev NT.prodT : NT := some (some (some none))
abbrev NT.part : NT := some (some (some (some ())))
theorem NT.elim {motive : NT → Prop} (nt : NT) (sum : motive .sum) (sumT : motive .sumT) (prod : motive .prod) (prodT : motive .prodT) (part : motive .part) : motive nt :=
  match nt with
  | none => sum
  | some none => sumT
  | some (some none) => prod
  | some (some (some none)) => prodT
  | some (some (some (some ()))) => part
def kindPM (C : Cx) (i : Nat) : Int := if isT C i 4 cMinus then 7 else 6
def ev (C : Cx) : Nat → NT → Nat → PS → PR
  | 0, _, _, _ => .error 0
  | f + 1, none, d, q => bd (ev C f .prod d q) (ev C f .sumT d)
  | f + 1, some none, d, q =>
    if isT C q.pos 4 cPlus || isT C q.pos 4 cMinus then
      bd (bd (ev C f .prod d (adv q)) fun q' => addEx C ⟨kindPM C q.pos, 0, sNone, sNone, (q.ex.length : Int) - 1, (q'.ex.length : Int) - 1⟩ q') (ev C f .sumT d)
    else .ok q
  | f + 1, some (some none), d, q => bd (ev C f .part d q) (ev C f .prodT d)
  | f + 1, some (some (some none)), d, q =>
    if isT C q.pos 4 cStar then
      bd (bd (ev C f .part d (adv q)) fun q' => addEx C ⟨8, 0, sNone, sNone, (q.ex.length : Int) - 1, (q'.ex.length : Int) - 1⟩ q') (ev C f .prodT d)
    else .ok q
  | f + 1, some (some (some (some ()))), d, q =>
    if (tokAt C q.pos).kind == 2 then addEx C ⟨1, (tokAt C q.pos).num, sNone, sNone, 0, 0⟩ (adv q)
    else if isT C q.pos 4 cOpen then
      if 20 ≤ d then .error (here C q.pos) else bd (ev C f .sum (d + 1) (adv q)) (tokP C 4 cShut)
    else if C.scr && isT C q.pos 1 sUndef then tailP C sUndef (adv q)
    else bd (nameP C false q) fun x => if isT C x.1.pos 4 cPoint then bd (nameP C true (adv x.1)) fun y => memP C x.2 y.2 y.1 else tailP C x.2 x.1
def nd (C : Cx) (nt : NT) (q : PS) : Nat :=
  5 * (C.ts.length - q.pos) + match nt with
    | .sum => 3
    | .prod => 2
    | _ => 1
def pE (C : Cx) (nt : NT) (d : Nat) (q : PS) : PR := ev C (nd C nt q) nt d q

theorem tokAt_none {C : Cx} {i : Nat} (h : C.ts.length ≤ i) : tokAt C i = ⟨0, sNone, 0, C.fin⟩ := by simp [tokAt, List.getD, List.getElem?_eq_none h]
theorem isT_lt {C : Cx} {i : Nat} {k : Int} {x : ByteArray} (h : isT C i k x = true) (hk : k ≠ 0) : i < C.ts.length := by
  rcases Nat.lt_or_ge i C.ts.length with g | g
  · exact g
  · simp only [isT, tokAt_none g, Bool.and_eq_true, beq_iff_eq] at h
    exact absurd h.1.symm hk
theorem kind_lt {C : Cx} {i : Nat} {k : Int} (h : ((tokAt C i).kind == k) = true) (hk : k ≠ 0) : i < C.ts.length := by
  rcases Nat.lt_or_ge i C.ts.length with g | g
  · exact g
  · simp only [tokAt_none g, beq_iff_eq] at h
    exact absurd h.symm hk
theorem plain_lt {C : Cx} {i : Nat} {o : Bool} (h : plainB C i o = true) : i < C.ts.length := by
  simp only [plainB, Bool.and_eq_true] at h
  exact kind_lt h.1 (by decide)
theorem tokP_ok {C : Cx} {k : Int} {x : ByteArray} {q q' : PS} (h : tokP C k x q = .ok q') : q' = adv q ∧ isT C q.pos k x = true := by
  unfold tokP at h
  split at h
  · next g => exact ⟨by cases h; rfl, g⟩
  · cases h
theorem nameP_ok {C : Cx} {o : Bool} {q : PS} {y : PS × ByteArray} (h : nameP C o q = .ok y) : y = (adv q, (tokAt C q.pos).text) ∧ plainB C q.pos o = true := by
  unfold nameP at h
  split at h
  · next g => exact ⟨by cases h; rfl, g⟩
  · cases h
theorem addEx_ok {C : Cx} {x : Ex} {q q' : PS} (h : addEx C x q = .ok q') : q' = { q with ex := q.ex ++ [x] } ∧ q.ex.length < 300 := by
  unfold addEx at h
  split at h
  · cases h
  · cases h
    exact ⟨rfl, by omega⟩
theorem adv_pos (q : PS) : (adv q).pos = q.pos + 1 := rfl
theorem tailP_pos {C : Cx} {n : ByteArray} {q q' : PS} (h : tailP C n q = .ok q') : q.pos ≤ q'.pos := by
  unfold tailP at h
  split at h
  · obtain ⟨a, h1, h2⟩ := bd_eq_ok h
    obtain ⟨b, h3, h4⟩ := bd_eq_ok h1
    obtain ⟨rfl, _⟩ := tokP_ok h3
    obtain ⟨rfl, _⟩ := tokP_ok h4
    obtain ⟨rfl, _⟩ := addEx_ok h2
    show q.pos ≤ q.pos + 1 + 1
    omega
  · obtain ⟨rfl, _⟩ := addEx_ok h
    exact Nat.le_refl _
theorem memP_pos {C : Cx} {n f : ByteArray} {q q' : PS} (h : memP C n f q = .ok q') : q.pos ≤ q'.pos := by
  unfold memP at h
  split at h
  · obtain ⟨a, h1, h2⟩ := bd_eq_ok h
    obtain ⟨b, h3, h4⟩ := bd_eq_ok h1
    obtain ⟨rfl, _⟩ := tokP_ok h3
    obtain ⟨rfl, _⟩ := tokP_ok h4
    obtain ⟨rfl, _⟩ := addEx_ok h2
    show q.pos ≤ q.pos + 1 + 1
    omega
  · obtain ⟨rfl, _⟩ := addEx_ok h
    exact Nat.le_refl _
theorem ev_pos {C : Cx} (f : Nat) : ∀ (nt : NT) (d : Nat) (q q' : PS), ev C f nt d q = .ok q' → q.pos ≤ q'.pos := by
  induction f with
  | zero => intro nt d q q' h; cases nt using NT.elim <;> cases h
  | succ f ih =>
    intro nt d q q' h
    cases nt using NT.elim with
    | sum =>
      rw [ev] at h
      obtain ⟨a, h1, h2⟩ := bd_eq_ok h
      exact Nat.le_trans (ih _ _ _ _ h1) (ih _ _ _ _ h2)
    | prod =>
      rw [ev] at h
      obtain ⟨a, h1, h2⟩ := bd_eq_ok h
      exact Nat.le_trans (ih _ _ _ _ h1) (ih _ _ _ _ h2)
    | sumT =>
      rw [ev] at h
      split at h
      · obtain ⟨a, h1, h2⟩ := bd_eq_ok h
        obtain ⟨b, h3, h4⟩ := bd_eq_ok h1
        obtain ⟨rfl, _⟩ := addEx_ok h4
        have e1 := ih _ _ _ _ h3
        have e2 := ih _ _ _ _ h2
        rw [adv_pos] at e1
        exact Nat.le_trans (by omega : q.pos ≤ b.pos) e2
      · cases h
        exact Nat.le_refl _
    | prodT =>
      rw [ev] at h
      split at h
      · obtain ⟨a, h1, h2⟩ := bd_eq_ok h
        obtain ⟨b, h3, h4⟩ := bd_eq_ok h1
        obtain ⟨rfl, _⟩ := addEx_ok h4
        have e1 := ih _ _ _ _ h3
        have e2 := ih _ _ _ _ h2
        rw [adv_pos] at e1
        exact Nat.le_trans (by omega : q.pos ≤ b.pos) e2
      · cases h
        exact Nat.le_refl _
    | part =>
      rw [ev] at h
      split at h
      · obtain ⟨rfl, _⟩ := addEx_ok h
        show q.pos ≤ q.pos + 1
        omega
      · split at h
        · split at h
          · cases h
          · obtain ⟨a, h1, h2⟩ := bd_eq_ok h
            obtain ⟨rfl, _⟩ := tokP_ok h2
            have e1 := ih _ _ _ _ h1
            rw [adv_pos] at e1 ⊢
            omega
        · split at h
          · have := tailP_pos h
            rw [adv_pos] at this
            omega
          · obtain ⟨y, h1, h2⟩ := bd_eq_ok h
            obtain ⟨rfl, _⟩ := nameP_ok h1
            simp only at h2
            split at h2
            · obtain ⟨z, h3, h4⟩ := bd_eq_ok h2
              obtain ⟨rfl, _⟩ := nameP_ok h3
              have := memP_pos h4
              simp only [adv_pos] at this
              omega
            · have := tailP_pos h2
              rw [adv_pos] at this
              omega
theorem ev_enough {C : Cx} (f : Nat) : ∀ (g : Nat) (nt : NT) (d : Nat) (q : PS), nd C nt q ≤ f → nd C nt q ≤ g → ev C f nt d q = ev C g nt d q := by
  induction f with
  | zero => intro g nt d q h; unfold nd at h; cases nt using NT.elim <;> simp at h
  | succ f ih =>
    intro g nt d q h1 h2
    obtain ⟨g, rfl⟩ : ∃ g', g = g' + 1 := by
      match g with
      | 0 => unfold nd at h2; cases nt using NT.elim <;> simp at h2
      | g + 1 => exact ⟨g, rfl⟩
    cases nt using NT.elim with
    | sum =>
      simp only [nd] at h1 h2
      rw [ev, ev, ih g .prod d q (by simp only [nd]; omega) (by simp only [nd]; omega)]
      refine bd_congr fun a ha => ?_
      have := ev_pos _ _ _ _ _ ha
      exact ih g .sumT d a (by simp only [nd]; omega) (by simp only [nd]; omega)
    | prod =>
      simp only [nd] at h1 h2
      rw [ev, ev, ih g .part d q (by simp only [nd]; omega) (by simp only [nd]; omega)]
      refine bd_congr fun a ha => ?_
      have := ev_pos _ _ _ _ _ ha
      exact ih g .prodT d a (by simp only [nd]; omega) (by simp only [nd]; omega)
    | sumT =>
      simp only [nd] at h1 h2
      rw [ev, ev]
      split
      · next hs =>
        have hlt : q.pos < C.ts.length := by
          rw [Bool.or_eq_true] at hs
          exact hs.elim (fun k => isT_lt k (by decide)) fun k => isT_lt k (by decide)
        rw [ih g .prod d (adv q) (by simp only [nd, adv_pos]; omega) (by simp only [nd, adv_pos]; omega)]
        refine bd_congr fun a ha => ?_
        obtain ⟨b, h3, h4⟩ := bd_eq_ok ha
        obtain ⟨rfl, _⟩ := addEx_ok h4
        have := ev_pos _ _ _ _ _ h3
        rw [adv_pos] at this
        exact ih g .sumT d _ (by simp only [nd]; omega) (by simp only [nd]; omega)
      · rfl
    | prodT =>
      simp only [nd] at h1 h2
      rw [ev, ev]
      split
      · next hs =>
        have hlt : q.pos < C.ts.length := isT_lt hs (by decide)
        rw [ih g .part d (adv q) (by simp only [nd, adv_pos]; omega) (by simp only [nd, adv_pos]; omega)]
        refine bd_congr fun a ha => ?_
        obtain ⟨b, h3, h4⟩ := bd_eq_ok ha
        obtain ⟨rfl, _⟩ := addEx_ok h4
        have := ev_pos _ _ _ _ _ h3
        rw [adv_pos] at this
        exact ih g .prodT d _ (by simp only [nd]; omega) (by simp only [nd]; omega)
      · rfl
    | part =>
      simp only [nd] at h1 h2
      rw [ev, ev]
      split
      · rfl
      · split
        · next hs =>
          have hlt : q.pos < C.ts.length := isT_lt hs (by decide)
          split
          · rfl
          · rw [ih g .sum (d + 1) (adv q) (by simp only [nd, adv_pos]; omega) (by simp only [nd, adv_pos]; omega)]
        · rfl
theorem ev_pE {C : Cx} {f d : Nat} {nt : NT} {q : PS} (h : nd C nt q ≤ f) : ev C f nt d q = pE C nt d q := ev_enough f _ nt d q h (Nat.le_refl _)
theorem pE_pos {C : Cx} {nt : NT} {d : Nat} {q q' : PS} (h : pE C nt d q = .ok q') : q.pos ≤ q'.pos := ev_pos _ _ _ _ _ h
theorem pE_succ {C : Cx} {nt : NT} {d : Nat} {q : PS} : pE C nt d q = ev C (nd C nt q + 1) nt d q := (ev_pE (Nat.le_succ _)).symm

theorem pE_sum (C : Cx) (d : Nat) (q : PS) : pE C .sum d q = bd (pE C .prod d q) (pE C .sumT d) := by
  rw [pE_succ, ev, ev_pE (by simp only [nd]; omega)]
  refine bd_congr fun a ha => ?_
  have := pE_pos ha
  exact ev_pE (by simp only [nd]; omega)
theorem pE_prod (C : Cx) (d : Nat) (q : PS) : pE C .prod d q = bd (pE C .part d q) (pE C .prodT d) := by
  rw [pE_succ, ev, ev_pE (by simp only [nd]; omega)]
  refine bd_congr fun a ha => ?_
  have := pE_pos ha
  exact ev_pE (by simp only [nd]; omega)
theorem pE_sumT (C : Cx) (d : Nat) (q : PS) : pE C .sumT d q =
    if isT C q.pos 4 cPlus || isT C q.pos 4 cMinus then
      bd (bd (pE C .prod d (adv q)) fun q' => addEx C ⟨kindPM C q.pos, 0, sNone, sNone, (q.ex.length : Int) - 1, (q'.ex.length : Int) - 1⟩ q') (pE C .sumT d)
    else .ok q := by
  rw [pE_succ, ev]
  split
  · next hs =>
    have hlt : q.pos < C.ts.length := by
      rw [Bool.or_eq_true] at hs
      exact hs.elim (fun k => isT_lt k (by decide)) fun k => isT_lt k (by decide)
    rw [ev_pE (by simp only [nd, adv_pos]; omega)]
    refine bd_congr fun a ha => ?_
    obtain ⟨b, h3, h4⟩ := bd_eq_ok ha
    obtain ⟨rfl, _⟩ := addEx_ok h4
    have := pE_pos h3
    rw [adv_pos] at this
    exact ev_pE (by simp only [nd]; omega)
  · rfl
theorem pE_prodT (C : Cx) (d : Nat) (q : PS) : pE C .prodT d q =
    if isT C q.pos 4 cStar then
      bd (bd (pE C .part d (adv q)) fun q' => addEx C ⟨8, 0, sNone, sNone, (q.ex.length : Int) - 1, (q'.ex.length : Int) - 1⟩ q') (pE C .prodT d)
    else .ok q := by
  rw [pE_succ, ev]
  split
  · next hs =>
    have hlt : q.pos < C.ts.length := isT_lt hs (by decide)
    rw [ev_pE (by simp only [nd, adv_pos]; omega)]
    refine bd_congr fun a ha => ?_
    obtain ⟨b, h3, h4⟩ := bd_eq_ok ha
    obtain ⟨rfl, _⟩ := addEx_ok h4
    have := pE_pos h3
    rw [adv_pos] at this
    exact ev_pE (by simp only [nd]; omega)
  · rfl
theorem pE_part (C : Cx) (d : Nat) (q : PS) : pE C .part d q =
    if (tokAt C q.pos).kind == 2 then addEx C ⟨1, (tokAt C q.pos).num, sNone, sNone, 0, 0⟩ (adv q)
    else if isT C q.pos 4 cOpen then
      if 20 ≤ d then .error (here C q.pos) else bd (pE C .sum (d + 1) (adv q)) (tokP C 4 cShut)
    else if C.scr && isT C q.pos 1 sUndef then tailP C sUndef (adv q)
    else bd (nameP C false q) fun x => if isT C x.1.pos 4 cPoint then bd (nameP C true (adv x.1)) fun y => memP C x.2 y.2 y.1 else tailP C x.2 x.1 := by
  rw [pE_succ, ev]
  split
  · rfl
  · split
    · next hs =>
      have hlt : q.pos < C.ts.length := isT_lt hs (by decide)
      split
      · rfl
      · rw [ev_pE (by simp only [nd, adv_pos]; omega)]
    · rfl
end Go.Proofs.Ytdbpknmoacjodaa
namespace Go.Proofs.Ytdbpknmoacjodaa
open Go.RowKit Go.PlainAid

theorem pow10_pos (k : Nat) : (0 : Int) < 10 ^ k := Int.pow_pos (by omega)
theorem pow10 (k : Nat) : (10 : Int) ^ (k + 1) = 10 ^ k * 10 := Int.pow_succ _ _
theorem pow10_mono {a b : Nat} (h : a ≤ b) : (10 : Int) ^ a ≤ 10 ^ b := by
  induction b with
  | zero =>
    obtain rfl : a = 0 := by omega
    exact Int.le_refl _
  | succ b ih =>
    by_cases e : a = b + 1
    · rw [e]; exact Int.le_refl _
    · have := ih (by omega)
      have := pow10_pos b
      rw [pow10]
      omega
theorem tenth (n : Int) (k : Nat) : n / 10 ^ k / 10 = n / 10 ^ (k + 1) := by
  rw [pow10, Int.ediv_ediv_of_nonneg (Int.le_of_lt (pow10_pos k))]
theorem tenth_bd (n : Int) (k : Nat) (h : 0 ≤ n) : 0 ≤ n / 10 ^ k ∧ n / 10 ^ k ≤ n :=
  ⟨Int.ediv_nonneg h (Int.le_of_lt (pow10_pos k)), Int.ediv_le_self _ h⟩

def dc : Nat → Int → Nat
  | 0, _ => 1
  | f + 1, q => if q < 10 then 1 else dc f (q / 10) + 1
theorem dc_facts (f : Nat) (q : Int) (h0 : 0 ≤ q) (h : q < 10 ^ (f + 1)) : 1 ≤ dc f q ∧ dc f q ≤ f + 1 ∧ q < 10 ^ dc f q ∧ (dc f q = 1 ∨ 10 ^ (dc f q - 1) ≤ q) := by
  induction f generalizing q with
  | zero => simpa [dc] using h
  | succ f ih =>
    unfold dc
    by_cases hq : q < 10
    · rw [if_pos hq]
      exact ⟨by omega, by omega, by simpa using hq, .inl rfl⟩
    · rw [if_neg hq]
      obtain ⟨a, b, c, d⟩ := ih (q / 10) (by omega) (by rw [pow10] at h; omega)
      refine ⟨by omega, by omega, ?_, .inr ?_⟩
      · rw [pow10]; omega
      · rw [Nat.add_sub_cancel]
        rcases d with d | d
        · rw [d]
          show (10 : Int) ^ 1 ≤ q
          rw [show (10 : Int) ^ 1 = 10 from by decide]
          omega
        · rw [show dc f (q / 10) = (dc f (q / 10) - 1) + 1 from by omega, pow10]
          omega
def dcn (m : Int) : Nat := dc 19 m
theorem dcn_facts (m : Int) (h0 : 0 ≤ m) (h : m ≤ 18446744073709551615) : 1 ≤ dcn m ∧ dcn m ≤ 20 ∧ m < 10 ^ dcn m ∧ (dcn m = 1 ∨ 10 ^ (dcn m - 1) ≤ m) :=
  dc_facts 19 m h0 (by rw [show (10 : Int) ^ (19 + 1) = 100000000000000000000 by decide]; omega)
theorem more_iff (m : Int) (h0 : 0 ≤ m) (h : m ≤ 18446744073709551615) (k : Nat) : 10 ≤ m / 10 ^ k ↔ k + 1 < dcn m := by
  obtain ⟨a, b, c, d⟩ := dcn_facts m h0 h
  rw [Int.le_ediv_iff_mul_le (pow10_pos k), Int.mul_comm, ← pow10]
  constructor
  · intro hk
    rcases Nat.lt_or_ge (k + 1) (dcn m) with e | e
    · exact e
    · have := pow10_mono e
      omega
  · intro hk
    have := pow10_mono (show k + 1 ≤ dcn m - 1 by omega)
    omega
theorem some_iff (m : Int) (h0 : 1 ≤ m) (h : m ≤ 18446744073709551615) (k : Nat) : m / 10 ^ k ≠ 0 ↔ k < dcn m := by
  obtain ⟨a, b, c, d⟩ := dcn_facts m (by omega) h
  have hb := tenth_bd m k (by omega)
  have : m / 10 ^ k ≠ 0 ↔ 1 ≤ m / 10 ^ k := by omega
  rw [this, Int.le_ediv_iff_mul_le (pow10_pos k), Int.one_mul]
  constructor
  · intro hk
    rcases Nat.lt_or_ge k (dcn m) with e | e
    · exact e
    · have := pow10_mono e
      omega
  · intro hk
    have := pow10_mono (show k ≤ dcn m - 1 by omega)
    rcases d with d | d
    · obtain rfl : k = 0 := by omega
      simpa using h0
    · omega

def dgk (m : Int) : Nat → List Int
  | 0 => []
  | k + 1 => (48 + m / 10 ^ k % 10) :: dgk m k
theorem dgk_length (m : Int) (k : Nat) : (dgk m k).length = k := by
  induction k with
  | zero => rfl
  | succ k ih => simp [dgk, ih]
theorem dgk_at (m : Int) (c k : Nat) (h : k < c) : (dgk m c)[c - 1 - k]? = some (48 + m / 10 ^ k % 10) := by
  induction c with
  | zero => omega
  | succ c ih =>
    by_cases e : k = c
    · subst e
      rw [show k + 1 - 1 - k = 0 from by omega]
      rfl
    · rw [show c + 1 - 1 - k = (c - 1 - k) + 1 from by omega, dgk, List.getElem?_cons_succ]
      exact ih (by omega)
theorem dgk_bd (m : Int) (k : Nat) : ∀ x ∈ dgk m k, 48 ≤ x ∧ x ≤ 57 := by
  induction k with
  | zero => simp [dgk]
  | succ k ih =>
    intro x hx
    simp only [dgk, List.mem_cons] at hx
    rcases hx with rfl | hx
    · omega
    · exact ih x hx
def absI (n : Int) : Int := if n < 0 then -n else n
theorem absI_neg {n : Int} (h : n < 0) : absI n = -n := by simp [absI, h]
theorem absI_pos {n : Int} (h : 0 ≤ n) : absI n = n := by rw [absI, if_neg (by omega)]
def decL (n : Int) : List Int := (if n < 0 then [45] else []) ++ dgk (absI n) (dcn (absI n))
theorem decL_neg {n : Int} (h : n < 0) : decL n = 45 :: dgk (-n) (dcn (-n)) := by simp [decL, h, absI]
theorem decL_pos {n : Int} (h : 0 ≤ n) : decL n = dgk n (dcn n) := by
  have : ¬ n < 0 := by omega
  simp [decL, this, absI]
theorem decL_bd (n : Int) : ∀ x ∈ decL n, 0 ≤ x ∧ x ≤ 255 := by
  intro x hx
  simp only [decL, List.mem_append] at hx
  rcases hx with hx | hx
  · split at hx
    · simp at hx; omega
    · simp at hx
  · have := dgk_bd _ _ x hx
    omega
theorem fillBack_full (L : List Int) : fillBack L L.length = L := by simp [fillBack]
theorem fillBack_head (x : Int) (L : List Int) : (fillBack (x :: L) L.length).set 0 x = x :: L := by
  simp [fillBack]
theorem back_at (p : List Int) (m : Int) (c k : Nat) (h : k < c) : (p ++ dgk m c)[(p ++ dgk m c).length - 1 - k]? = some (48 + m / 10 ^ k % 10) := by
  rw [List.length_append, dgk_length, List.getElem?_append_right (by omega), show p.length + c - 1 - k - p.length = c - 1 - k from by omega]
  exact dgk_at m c k h
end Go.Proofs.Ytdbpknmoacjodaa
namespace Go.Proofs.Ytdbpknmoacjodaa
open Go.RowKit Go.PlainAid

structure Md where
  rq : List ByteArray
  im : List Im
  ep : List Ep
  st : List Sm
  ex : List Ex
def mdOf (q : PS) : Md := ⟨q.rq, q.im, q.ep ++ q.la, q.st, q.ex⟩
def sumK (k : Int) : Bool := k == 6 || k == 7
def twoK (k : Int) : Bool := k == 6 || k == 7 || k == 8
def exNo : Ex := ⟨0, 0, sNone, sNone, 0, 0⟩
abbrev cParens : ByteArray := { data := #[40, 41] }
abbrev tPlus : ByteArray := { data := #[32, 43, 32] }
abbrev tMinus : ByteArray := { data := #[32, 45, 32] }
abbrev tStar : ByteArray := { data := #[32, 42, 32] }
def sideT (b : Bool) (t : ByteArray) : ByteArray := if b then cOpen ++ t ++ cShut else t
def prE (ex : List Ex) : Nat → Nat → ByteArray
  | 0, _ => sNone
  | f + 1, i =>
    let x := ex.getD i exNo
    if x.kind == 1 then strOfNums (decL x.num)
    else if x.kind == 2 then x.name
    else if x.kind == 3 then x.name ++ cParens
    else if x.kind == 4 then x.name ++ cPoint ++ x.field
    else if x.kind == 5 then x.name ++ cPoint ++ x.field ++ cParens
    else if x.kind == 6 then prE ex f x.l.toNat ++ tPlus ++ sideT (sumK (ex.getD x.r.toNat exNo).kind) (prE ex f x.r.toNat)
    else if x.kind == 7 then prE ex f x.l.toNat ++ tMinus ++ sideT (sumK (ex.getD x.r.toNat exNo).kind) (prE ex f x.r.toNat)
    else if x.kind == 8 then sideT (sumK (ex.getD x.l.toNat exNo).kind) (prE ex f x.l.toNat) ++ tStar ++ sideT (twoK (ex.getD x.r.toNat exNo).kind) (prE ex f x.r.toNat)
    else sNone
def prX (ex : List Ex) (i : Nat) : ByteArray := prE ex (i + 1) i
def Ahead (ex : List Ex) : Prop := ∀ (i : Nat) (x : Ex), ex[i]? = some x → twoK x.kind = true → 0 ≤ x.l ∧ x.l < (i : Int) ∧ 0 ≤ x.r ∧ x.r < (i : Int)
theorem two_of {k : Int} (h : (k == 6) = true ∨ (k == 7) = true ∨ (k == 8) = true) : twoK k = true := by
  unfold twoK
  rcases h with h | h | h <;> simp [h]
theorem ahead_at {ex : List Ex} (h : Ahead ex) {i : Nat} (hk : twoK (ex.getD i exNo).kind = true) : 0 ≤ (ex.getD i exNo).l ∧ (ex.getD i exNo).l < (i : Int) ∧ 0 ≤ (ex.getD i exNo).r ∧ (ex.getD i exNo).r < (i : Int) := by
  by_cases hi : i < ex.length
  · have e : ex.getD i exNo = ex[i] := by simp [List.getD, List.getElem?_eq_getElem hi]
    rw [e] at hk ⊢
    exact h i _ (List.getElem?_eq_getElem hi) hk
  · have e : ex.getD i exNo = exNo := by simp [List.getD, List.getElem?_eq_none (by omega : ex.length ≤ i)]
    rw [e] at hk
    exact absurd hk (by decide)
theorem prE_enough {ex : List Ex} (h : Ahead ex) (f : Nat) : ∀ (g i : Nat), i < f → i < g → prE ex f i = prE ex g i := by
  induction f with
  | zero => intro g i hi; omega
  | succ f ih =>
    intro g i h1 h2
    obtain ⟨g, rfl⟩ : ∃ g', g = g' + 1 := ⟨g - 1, by omega⟩
    rw [prE, prE]
    have ha := fun hk => ahead_at h (i := i) hk
    generalize ex.getD i exNo = x at ha ⊢
    have hs : ∀ hk : twoK x.kind = true, prE ex f x.l.toNat = prE ex g x.l.toNat ∧ prE ex f x.r.toNat = prE ex g x.r.toNat := fun hk => by
      have := ha hk
      exact ⟨ih g _ (by omega) (by omega), ih g _ (by omega) (by omega)⟩
    by_cases k6 : (x.kind == 6) = true
    · rw [(hs (two_of (.inl k6))).1, (hs (two_of (.inl k6))).2]
    · by_cases k7 : (x.kind == 7) = true
      · rw [(hs (two_of (.inr (.inl k7)))).1, (hs (two_of (.inr (.inl k7)))).2]
      · by_cases k8 : (x.kind == 8) = true
        · rw [(hs (two_of (.inr (.inr k8)))).1, (hs (two_of (.inr (.inr k8)))).2]
        · simp only [k6, k7, k8, Bool.false_eq_true, ↓reduceIte]
theorem prX_step {ex : List Ex} (h : Ahead ex) (i : Nat) : prX ex i =
    if (ex.getD i exNo).kind == 1 then strOfNums (decL (ex.getD i exNo).num)
    else if (ex.getD i exNo).kind == 2 then (ex.getD i exNo).name
    else if (ex.getD i exNo).kind == 3 then (ex.getD i exNo).name ++ cParens
    else if (ex.getD i exNo).kind == 4 then (ex.getD i exNo).name ++ cPoint ++ (ex.getD i exNo).field
    else if (ex.getD i exNo).kind == 5 then (ex.getD i exNo).name ++ cPoint ++ (ex.getD i exNo).field ++ cParens
    else if (ex.getD i exNo).kind == 6 then prX ex (ex.getD i exNo).l.toNat ++ tPlus ++ sideT (sumK (ex.getD (ex.getD i exNo).r.toNat exNo).kind) (prX ex (ex.getD i exNo).r.toNat)
    else if (ex.getD i exNo).kind == 7 then prX ex (ex.getD i exNo).l.toNat ++ tMinus ++ sideT (sumK (ex.getD (ex.getD i exNo).r.toNat exNo).kind) (prX ex (ex.getD i exNo).r.toNat)
    else if (ex.getD i exNo).kind == 8 then sideT (sumK (ex.getD (ex.getD i exNo).l.toNat exNo).kind) (prX ex (ex.getD i exNo).l.toNat) ++ tStar ++ sideT (twoK (ex.getD (ex.getD i exNo).r.toNat exNo).kind) (prX ex (ex.getD i exNo).r.toNat)
    else sNone := by
  rw [prX, prE]
  have ha := fun hk => ahead_at h (i := i) hk
  generalize ex.getD i exNo = x at ha ⊢
  have hs : ∀ hk : twoK x.kind = true, prE ex i x.l.toNat = prX ex x.l.toNat ∧ prE ex i x.r.toNat = prX ex x.r.toNat := fun hk => by
    have := ha hk
    exact ⟨prE_enough h _ _ _ (by omega) (by omega), prE_enough h _ _ _ (by omega) (by omega)⟩
  by_cases k6 : (x.kind == 6) = true
  · rw [(hs (two_of (.inl k6))).1, (hs (two_of (.inl k6))).2]
  · by_cases k7 : (x.kind == 7) = true
    · rw [(hs (two_of (.inr (.inl k7)))).1, (hs (two_of (.inr (.inl k7)))).2]
    · by_cases k8 : (x.kind == 8) = true
      · rw [(hs (two_of (.inr (.inr k8)))).1, (hs (two_of (.inr (.inr k8)))).2]
      · simp only [k6, k7, k8, Bool.false_eq_true, ↓reduceIte]

def usesE (ex : List Ex) (k : Int) : Nat := (ex.map fun x => if twoK x.kind then (if x.l == k then 1 else 0) + (if x.r == k then 1 else 0) else 0).sum
def usesS (st : List Sm) (k : Int) : Nat := (st.map fun s => if s.expr == k then 1 else 0).sum
structure Tree (m : Md) : Prop where
  ahead : Ahead m.ex
  stm : ∀ s ∈ m.st, 0 ≤ s.expr ∧ s.expr < (m.ex.length : Int)
  once : ∀ k, k < m.ex.length → usesE m.ex (k : Int) + usesS m.st (k : Int) = 1
end Go.Proofs.Ytdbpknmoacjodaa
namespace Go.Proofs.Ytdbpknmoacjodaa
open Go.RowKit Go.PlainAid

def sm (k : Nat) (f : Nat → Nat) : Nat := ((List.range k).map f).sum
theorem sm_zero (f : Nat → Nat) : sm 0 f = 0 := rfl
theorem sm_succ (k : Nat) (f : Nat → Nat) : sm (k + 1) f = sm k f + f k := by
  unfold sm
  rw [List.range_succ, List.map_append, List.sum_append]
  simp
theorem sm_add (k : Nat) (f g : Nat → Nat) : sm k (fun j => f j + g j) = sm k f + sm k g := by
  induction k with
  | zero => rfl
  | succ k ih => rw [sm_succ, sm_succ, sm_succ, ih]; omega
theorem sm_congr {k : Nat} {f g : Nat → Nat} (h : ∀ j, j < k → f j = g j) : sm k f = sm k g := by
  induction k with
  | zero => rfl
  | succ k ih => rw [sm_succ, sm_succ, ih fun j hj => h j (by omega), h k (by omega)]
theorem sm_none (k : Nat) : sm k (fun _ => 0) = 0 := by
  induction k with
  | zero => rfl
  | succ k ih => rw [sm_succ, ih]
theorem sm_one (f : Nat → Nat) (k : Nat) (l : Int) (h0 : 0 ≤ l) (h : l < (k : Int)) : sm k (fun j => (if l == (j : Int) then 1 else 0) * f j) = f l.toNat := by
  induction k with
  | zero => omega
  | succ k ih =>
    rw [sm_succ]
    by_cases e : l = (k : Int)
    · have e1 : sm k (fun j => (if l == (j : Int) then 1 else 0) * f j) = 0 := (sm_congr (g := fun _ => 0) fun j hj => by rw [if_neg (by rw [beq_iff_eq]; omega)]; omega).trans (sm_none k)
      rw [e1, if_pos (by rw [beq_iff_eq]; exact e), show l.toNat = k from by omega]
      omega
    · rw [ih (by omega), if_neg (by rw [beq_iff_eq]; exact e)]
      omega
def u1 (x : Ex) (k : Int) : Nat := if twoK x.kind then (if x.l == k then 1 else 0) + (if x.r == k then 1 else 0) else 0
theorem usesE_drop {ex : List Ex} {i : Nat} (hi : i < ex.length) (k : Int) : usesE (ex.drop i) k = u1 ex[i] k + usesE (ex.drop (i + 1)) k := by
  rw [List.drop_eq_getElem_cons hi, usesE, List.map_cons, List.sum_cons]
  rfl
theorem usesE_end {ex : List Ex} {i : Nat} (hi : ex.length ≤ i) (k : Int) : usesE (ex.drop i) k = 0 := by rw [List.drop_eq_nil_of_le hi]; rfl
theorem usesE_from {ex : List Ex} (h : Ahead ex) (k : Nat) (hk : k < ex.length) : ∀ d j, j + d = k + 1 → usesE (ex.drop j) (k : Int) = usesE (ex.drop (k + 1)) (k : Int) := by
  intro d
  induction d with
  | zero => intro j hj; rw [show j = k + 1 from by omega]
  | succ d ih =>
    intro j hj
    rw [usesE_drop (by omega), ih (j + 1) (by omega)]
    have : u1 ex[j] (k : Int) = 0 := by
      unfold u1
      split
      · next ht =>
        have := h j _ (List.getElem?_eq_getElem (by omega)) ht
        rw [if_neg (by rw [beq_iff_eq]; omega), if_neg (by rw [beq_iff_eq]; omega)]
      · rfl
    omega
def wt (ex : List Ex) (i : Nat) : Nat := (prX ex i).size
def cost (x : Ex) : Nat := x.name.size + x.field.size + 40
theorem side_size (b : Bool) (t : ByteArray) : (sideT b t).size ≤ t.size + 2 := by
  unfold sideT
  split
  · rw [ByteArray.size_append, ByteArray.size_append]
    show 1 + t.size + 1 ≤ t.size + 2
    omega
  · omega
theorem dec_size (n : Int) (h0 : -9223372036854775808 ≤ n) (h1 : n ≤ 9223372036854775807) : (strOfNums (decL n)).size ≤ 21 := by
  rw [strOfNums_size]
  by_cases h : n < 0
  · rw [decL_neg h, List.length_cons, dgk_length]
    have := (dcn_facts (-n) (by omega) (by omega)).2.1
    omega
  · rw [decL_pos (by omega), dgk_length]
    have := (dcn_facts n (by omega) (by omega)).2.1
    omega
theorem wt_step {ex : List Ex} (h : Ahead ex) (i : Nat) (hn : -9223372036854775808 ≤ (ex.getD i exNo).num ∧ (ex.getD i exNo).num ≤ 9223372036854775807) :
    wt ex i ≤ cost (ex.getD i exNo) + if twoK (ex.getD i exNo).kind then wt ex (ex.getD i exNo).l.toNat + wt ex (ex.getD i exNo).r.toNat else 0 := by
  unfold wt
  rw [prX_step h]
  generalize ex.getD i exNo = x at hn ⊢
  unfold cost
  by_cases k1 : (x.kind == 1) = true
  · rw [if_pos k1]
    have := dec_size x.num hn.1 hn.2
    omega
  · rw [if_neg k1]
    by_cases k2 : (x.kind == 2) = true
    · rw [if_pos k2]; omega
    · rw [if_neg k2]
      by_cases k3 : (x.kind == 3) = true
      · rw [if_pos k3, ByteArray.size_append]
        have : cParens.size = 2 := rfl
        omega
      · rw [if_neg k3]
        by_cases k4 : (x.kind == 4) = true
        · rw [if_pos k4, ByteArray.size_append, ByteArray.size_append]
          have : cPoint.size = 1 := rfl
          omega
        · rw [if_neg k4]
          by_cases k5 : (x.kind == 5) = true
          · rw [if_pos k5, ByteArray.size_append, ByteArray.size_append, ByteArray.size_append]
            have : cPoint.size = 1 := rfl
            have : cParens.size = 2 := rfl
            omega
          · rw [if_neg k5]
            by_cases k6 : (x.kind == 6) = true
            · rw [if_pos k6, if_pos (two_of (.inl k6)), ByteArray.size_append, ByteArray.size_append]
              have := side_size (sumK (ex.getD x.r.toNat exNo).kind) (prX ex x.r.toNat)
              have : tPlus.size = 3 := rfl
              omega
            · rw [if_neg k6]
              by_cases k7 : (x.kind == 7) = true
              · rw [if_pos k7, if_pos (two_of (.inr (.inl k7))), ByteArray.size_append, ByteArray.size_append]
                have := side_size (sumK (ex.getD x.r.toNat exNo).kind) (prX ex x.r.toNat)
                have : tMinus.size = 3 := rfl
                omega
              · rw [if_neg k7]
                by_cases k8 : (x.kind == 8) = true
                · rw [if_pos k8, if_pos (two_of (.inr (.inr k8))), ByteArray.size_append, ByteArray.size_append]
                  have := side_size (sumK (ex.getD x.l.toNat exNo).kind) (prX ex x.l.toNat)
                  have := side_size (twoK (ex.getD x.r.toNat exNo).kind) (prX ex x.r.toNat)
                  have : tStar.size = 3 := rfl
                  omega
                · rw [if_neg k8]
                  show 0 ≤ _
                  omega
def Nums (ex : List Ex) : Prop := ∀ x ∈ ex, -9223372036854775808 ≤ x.num ∧ x.num ≤ 9223372036854775807
theorem getD_at {ex : List Ex} {i : Nat} (hi : i < ex.length) : ex.getD i exNo = ex[i] := by simp [List.getD, List.getElem?_eq_getElem hi]
theorem stm_sum (f : Nat → Nat) (n : Nat) : ∀ st : List Sm, (∀ s ∈ st, 0 ≤ s.expr ∧ s.expr < (n : Int)) → (st.map fun s => f s.expr.toNat).sum = sm n (fun j => usesS st (j : Int) * f j) := by
  intro st
  induction st with
  | nil => intro _; show 0 = _; rw [← sm_none n]; exact sm_congr fun j _ => by simp [usesS]
  | cons s st ih =>
    intro h
    rw [List.map_cons, List.sum_cons, ih fun x hx => h x (List.mem_cons_of_mem _ hx)]
    have h1 := h s List.mem_cons_self
    rw [← sm_one f n s.expr h1.1 h1.2, ← sm_add]
    refine sm_congr fun j _ => ?_
    simp only [usesS, List.map_cons, List.sum_cons]
    rw [Nat.add_mul]
theorem tree_down {m : Md} (t : Tree m) (hn : Nums m.ex) : ∀ d k, k + d = m.ex.length →
    (m.st.map fun s => wt m.ex s.expr.toNat).sum ≤ sm k (fun j => (usesS m.st (j : Int) + usesE (m.ex.drop k) (j : Int)) * wt m.ex j) + ((m.ex.drop k).map cost).sum := by
  intro d
  induction d with
  | zero =>
    intro k hk
    have : k = m.ex.length := by omega
    subst this
    rw [stm_sum _ _ _ t.stm]
    refine Nat.le_trans (Nat.le_of_eq ?_) (Nat.le_add_right _ _)
    refine sm_congr fun j _ => ?_
    rw [usesE_end (Nat.le_refl _), Nat.add_zero]
  | succ d ih =>
    intro k hk
    have hlt : k < m.ex.length := by omega
    refine Nat.le_trans (ih (k + 1) (by omega)) ?_
    have h1 : usesS m.st (k : Int) + usesE (m.ex.drop (k + 1)) (k : Int) = 1 := by
      have := t.once k hlt
      rw [← usesE_from t.ahead k hlt (k + 1) 0 (by omega), List.drop_zero]
      omega
    rw [sm_succ, h1, Nat.one_mul, List.drop_eq_getElem_cons hlt, List.map_cons, List.sum_cons]
    have h2 := wt_step t.ahead k (by rw [getD_at hlt]; exact hn _ (List.getElem_mem hlt))
    rw [getD_at hlt] at h2
    have h3 : sm k (fun j => (usesS m.st (j : Int) + usesE (m.ex.drop k) (j : Int)) * wt m.ex j) = sm k (fun j => (usesS m.st (j : Int) + usesE (m.ex.drop (k + 1)) (j : Int)) * wt m.ex j) + if twoK m.ex[k].kind then wt m.ex m.ex[k].l.toNat + wt m.ex m.ex[k].r.toNat else 0 := by
      have e : ∀ j : Nat, (usesS m.st (j : Int) + usesE (m.ex.drop k) (j : Int)) * wt m.ex j = (usesS m.st (j : Int) + usesE (m.ex.drop (k + 1)) (j : Int)) * wt m.ex j + u1 m.ex[k] (j : Int) * wt m.ex j := fun j => by
        rw [usesE_drop hlt, ← Nat.add_mul]
        congr 1
        omega
      rw [sm_congr fun j _ => e j, sm_add]
      congr 1
      split
      · next ht =>
        have ha := t.ahead k _ (List.getElem?_eq_getElem hlt) ht
        rw [← sm_one (wt m.ex) k _ ha.1 ha.2.1, ← sm_one (wt m.ex) k _ ha.2.2.1 ha.2.2.2, ← sm_add]
        refine sm_congr fun j _ => ?_
        rw [u1, if_pos ht, Nat.add_mul]
      · next ht =>
        rw [← sm_none k]
        refine sm_congr fun j _ => ?_
        rw [u1, if_neg ht, Nat.zero_mul]
    have h4 : usesE (m.ex[k] :: m.ex.drop (k + 1)) = usesE (m.ex.drop k) := by rw [← List.drop_eq_getElem_cons hlt]
    rw [h4, h3]
    omega
theorem tree_total {m : Md} (t : Tree m) (hn : Nums m.ex) : (m.st.map fun s => wt m.ex s.expr.toNat).sum ≤ (m.ex.map cost).sum := by
  have := tree_down t hn m.ex.length 0 (by omega)
  rw [sm_zero, Nat.zero_add, List.drop_zero] at this
  exact this
end Go.Proofs.Ytdbpknmoacjodaa
