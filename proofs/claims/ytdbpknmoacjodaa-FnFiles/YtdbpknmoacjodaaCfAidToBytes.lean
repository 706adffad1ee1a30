/-
  Plain facts of numbers and bytes, and small facts on what a call hands back: no program is spoken of.
  Strings made of byte slices: what 'string(b)' tells where b is a row of the call's own; rows that are filled place by place; what strings are as lists of numbers. No program is spoken of.
  Plain facts on texts as lists of numbers. No program is spoken of.
-/
import Derived.WalkKit
import Derived.PlainAid
import Derived.Laws.BytesArg
import Derived.Lib.Strings
import Derived.Deep.RegionLaw
import Derived.Maps.AppendAt
import Derived.Deep.Slices
import Derived.OpenShut
import Derived.Below
namespace Go.Proofs.Ytdbpknmoacjodaa
open Go.RowKit Go.PlainAid

def inB (a b c : Int) : Bool := decide (b ≤ a) && decide (a ≤ c)
theorem inB_yes {a b c : Int} (h : b ≤ a) (k : a ≤ c) : inB a b c = true := by simp [inB, h, k]
theorem inB_no {a b c : Int} (h : ¬ (b ≤ a ∧ a ≤ c)) : inB a b c = false := by
  simp only [inB, Bool.and_eq_false_iff, decide_eq_false_iff_not]; omega
theorem inB_iff {a b c : Int} : inB a b c = true ↔ b ≤ a ∧ a ≤ c := by simp [inB]

theorem ret_bool {a b : Bool} (h : a = b) : Ending.returned (.bool a) = .returned (.bool b) := by rw [h]
theorem ret_int {k : IntKind} {a b : Int} (h : a = b) : Ending.returned (.int k a) = .returned (.int k b) := by rw [h]
theorem ret_str {a b : ByteArray} (h : a = b) : Ending.returned (.string a) = .returned (.string b) := by rw [h]
theorem ret_int_bool {a b : Int} {c d : Bool} (h : a = b) (k : c = d) : Ending.returned (.tuple #[.int .i64 a, .bool c]) = .returned (.tuple #[.int .i64 b, .bool d]) := by rw [h, k]
theorem ret_int_int {a b c d : Int} (h : a = b) (k : c = d) : Ending.returned (.tuple #[.int .i64 a, .int .i64 c]) = .returned (.tuple #[.int .i64 b, .int .i64 d]) := by rw [h, k]
theorem ret_str_bool {a b : ByteArray} {c d : Bool} (h : a = b) (k : c = d) : Ending.returned (.tuple #[.string a, .bool c]) = .returned (.tuple #[.string b, .bool d]) := by rw [h, k]

def rfix (s : ByteArray) : Nat → Int
  | 0 => 0
  | k + 1 => rfix s k * 256 + bt s k
theorem rfix_step (s : ByteArray) (k : Nat) (B : Int) (h : 0 ≤ rfix s k ∧ rfix s k ≤ B) : 0 ≤ rfix s (k + 1) ∧ rfix s (k + 1) ≤ B * 256 + 255 := by
  have h0 := bt_nonneg s k
  have h1 := bt_le s k
  simp only [rfix]; omega
theorem rfix_lt (s : ByteArray) (k : Nat) (h : k ≤ 6) : 0 ≤ rfix s k ∧ rfix s k ≤ 281474976710655 := by
  have e0 : 0 ≤ rfix s 0 ∧ rfix s 0 ≤ 0 := by simp [rfix]
  have e1 := rfix_step s 0 _ e0
  have e2 := rfix_step s 1 _ e1
  have e3 := rfix_step s 2 _ e2
  have e4 := rfix_step s 3 _ e3
  have e5 := rfix_step s 4 _ e4
  have e6 := rfix_step s 5 _ e5
  simp only [Nat.zero_add, Nat.reduceAdd] at e1 e2 e3 e4 e5 e6
  match k, h with
  | 0, _ => omega
  | 1, _ => omega
  | 2, _ => omega
  | 3, _ => omega
  | 4, _ => omega
  | 5, _ => omega
  | 6, _ => omega
theorem or_byte (m b : Int) (h0 : 0 ≤ m) (h1 : m ≤ 281474976710655) (h2 : 0 ≤ b) (h3 : b ≤ 255) : bits .or .i64 (m * 256) b = m * 256 + b :=
  bits_join .i64 63 (by decide) (fun n a b => by rw [IntKind.wrap_i64]; omega) 8 (m * 256) b (by omega) (by omega) (by omega) h2 (by omega) (by omega)
def rfOk (s : ByteArray) (n : Int) : Bool := inB n 1 7 && decide (n ≤ s.size)
def rfV (s : ByteArray) (n : Int) : Int := if rfOk s n then rfix s n.toNat else 0
theorem rfOk_yes {s : ByteArray} {n : Int} (h1 : 1 ≤ n) (h7 : n ≤ 7) (hl : n ≤ s.size) : rfOk s n = true := by simp [rfOk, inB_yes h1 h7, hl]
theorem rfOk_no {s : ByteArray} {n : Int} (h : ¬ (1 ≤ n ∧ n ≤ 7 ∧ n ≤ s.size)) : rfOk s n = false := by
  simp only [rfOk, Bool.and_eq_false_iff, decide_eq_false_iff_not]
  by_cases k : 1 ≤ n ∧ n ≤ 7
  · exact .inr (by omega)
  · exact .inl (inB_no k)
theorem rfV_yes {s : ByteArray} {n : Int} (h1 : 1 ≤ n) (h7 : n ≤ 7) (hl : n ≤ s.size) : rfV s n = rfix s n.toNat := by simp [rfV, rfOk_yes h1 h7 hl]
theorem rfV_no {s : ByteArray} {n : Int} (h : ¬ (1 ≤ n ∧ n ≤ 7 ∧ n ≤ s.size)) : rfV s n = 0 := by simp [rfV, rfOk_no h]
end Go.Proofs.Ytdbpknmoacjodaa
namespace Go.Proofs.Ytdbpknmoacjodaa
open Go.RowKit Go.PlainAid

def OwnB (w : World) (base : Nat) (e : TypeId) (v : Value) (n : Nat) (xs : List Int) : Prop := w.ownsRow base e 1 v n (xs.map (Value.int .u8))

theorem run_string_own {P : Program} {w : World} {src dst e : TypeId} (hs : P.underlying src = some (.slice e)) (he : P.underlying e = some (.int .u8)) (hd : P.underlying dst = some .string)
    {base n : Nat} {v : Value} {xs : List Int} (h : OwnB w base e v n xs) : (convert src dst v).run P w = .ok (.string (strOfNums xs)) w := by
  obtain ⟨hl, hc⟩ := h
  rw [List.length_map, Nat.mul_one] at hl
  rcases hc with ⟨rfl, rfl⟩ | ⟨g, cap, cur, rfl, hb, hg, hn, hm, hcs, ht⟩
  · obtain rfl := List.length_eq_zero_iff.1 hl
    exact run_convert_bytes_nil w src e hs he 0 0 dst hd
  · refine run_convert_bytes_arg w src e hs he g 0 n cap xs hl (fun i hi => ?_) dst hd
    have hown : w.ownsRow base e 1 (.slice (some ⟨g, 0, none⟩) n cap) n (xs.map (Value.int .u8)) := ⟨by simpa using hl, .inr ⟨g, cap, cur, rfl, hb, hg, hn, hm, hcs, ht⟩⟩
    have := hown.cellAt i (by omega)
    rw [Nat.zero_add, this]
    simp [List.getD, List.getElem?_eq_getElem (show i < xs.length by omega)]

theorem run_string_one {P : Program} {src dst e : TypeId} (hs : P.underlying src = some (.slice e)) (he : P.underlying e = some (.int .u8)) (hd : P.underlying dst = some .string)
    (w : World) (x : Int) : (convert src dst (.slice (some ⟨w.heap.size, 0, none⟩) 1 1)).run P (w.alloc (.cells #[.int .u8 x] e)) = .ok (.string (strOfNums [x])) (w.alloc (.cells #[.int .u8 x] e)) := by
  refine run_convert_bytes_arg _ src e hs he w.heap.size 0 1 1 [x] rfl (fun i hi => ?_) dst hd
  obtain rfl : i = 0 := by omega
  rw [World.cell?_alloc_new]
  rfl

theorem strOfNums_append (xs ys : List Int) : strOfNums xs ++ strOfNums ys = strOfNums (xs ++ ys) := by
  unfold strOfNums
  rw [ByteArray.mk_append_mk, List.map_append]
theorem strOfNums_cons (x : Int) (ys : List Int) : strOfNums [x] ++ strOfNums ys = strOfNums (x :: ys) := strOfNums_append [x] ys
theorem strOfNums_nil : strOfNums [] = { data := #[] } := rfl

def fillTo (L : List Int) (k : Nat) : List Int := L.take k ++ List.replicate (L.length - k) 0
theorem fillTo_zero (L : List Int) : fillTo L 0 = List.replicate L.length 0 := by simp [fillTo]
theorem fillTo_full (L : List Int) (k : Nat) (h : L.length ≤ k) : fillTo L k = L := by
  simp [fillTo, List.take_of_length_le h, show L.length - k = 0 from by omega]
theorem fillTo_length (L : List Int) (k : Nat) (h : k ≤ L.length) : (fillTo L k).length = L.length := by simp [fillTo]; omega
theorem fillTo_set (L : List Int) (k : Nat) (x : Int) (h : k < L.length) (hx : L[k]? = some x) : (fillTo L k).set k x = fillTo L (k + 1) := by
  have hl : (L.take k).length = k := by simp; omega
  have hr : List.replicate (L.length - k) (0 : Int) = 0 :: List.replicate (L.length - (k + 1)) 0 := by
    rw [show L.length - k = (L.length - (k + 1)) + 1 from by omega, List.replicate_succ]
  have ht : L.take (k + 1) = L.take k ++ [x] := by rw [List.take_add_one, hx]; rfl
  unfold fillTo
  rw [List.set_append_right k x (by omega), hl, Nat.sub_self, hr, List.set_cons_zero, ht, List.append_assoc]
  rfl

def fillBack (L : List Int) (k : Nat) : List Int := List.replicate (L.length - k) 0 ++ L.drop (L.length - k)
theorem fillBack_zero (L : List Int) : fillBack L 0 = List.replicate L.length 0 := by simp [fillBack]
theorem fillBack_set (L : List Int) (k : Nat) (x : Int) (h : k < L.length) (hx : L[L.length - 1 - k]? = some x) : (fillBack L k).set (L.length - 1 - k) x = fillBack L (k + 1) := by
  have hr : List.replicate (L.length - k) (0 : Int) = List.replicate (L.length - (k + 1)) 0 ++ [0] := by
    rw [show L.length - k = (L.length - (k + 1)) + 1 from by omega, List.replicate_succ']
  have hd : L.drop (L.length - (k + 1)) = x :: L.drop (L.length - k) := by
    have e : L.length - (k + 1) = L.length - 1 - k := by omega
    rw [e]
    have hlt : L.length - 1 - k < L.length := by omega
    rw [List.drop_eq_getElem_cons hlt]
    rw [List.getElem?_eq_getElem hlt] at hx
    simp only [Option.some.injEq] at hx
    rw [hx, show L.length - 1 - k + 1 = L.length - k from by omega]
  unfold fillBack
  rw [hr, hd, List.append_assoc, List.set_append_right _ _ (by simp; omega), List.length_replicate, show L.length - 1 - k - (L.length - (k + 1)) = 0 from by omega]
  rfl

theorem own_set {w : World} {B g n cap : Nat} {e : TypeId} {L : List Int} (h : OwnB w B e (.slice (some ⟨g, 0, none⟩) n cap) n L) (j : Nat) (x : Int) :
    OwnB (w.setCell ⟨g, j, none⟩ (.int .u8 x)) B e (.slice (some ⟨g, 0, none⟩) n cap) n (L.set j x) := by
  unfold OwnB at h ⊢
  rw [List.map_set]
  exact (h.stored j (.int .u8 x)).1
theorem own_cell {w : World} {B g n cap : Nat} {e : TypeId} {L : List Int} (h : OwnB w B e (.slice (some ⟨g, 0, none⟩) n cap) n L) (j : Nat) (hj : j < n) : ∃ v, w.cell? ⟨g, j, none⟩ = some v := by
  unfold OwnB at h
  have hl := h.1
  rw [List.length_map, Nat.mul_one] at hl
  rw [h.cellAt j (by omega)]
  simp [List.getElem?_eq_getElem (show j < L.length by omega)]

theorem own_free {w : World} {B g n cap : Nat} {e : TypeId} {L : List Int} (h : OwnB w B e (.slice (some ⟨g, 0, none⟩) n cap) n L) (j : Nat) : w.frozen? ⟨g, j, none⟩ = false := World.ownsRow.frozenAt h j

def dl (n : Int) : Nat → List Int
  | 0 => []
  | k + 1 => (n / 2 ^ (8 * k) % 256) :: dl n k
theorem dl_length (n : Int) (k : Nat) : (dl n k).length = k := by
  induction k with
  | zero => rfl
  | succ k ih => simp [dl, ih]
theorem dl_at (n : Int) (m k : Nat) (h : k < m) : (dl n m)[k]? = some (n / 2 ^ (8 * (m - 1 - k)) % 256) := by
  induction m generalizing k with
  | zero => omega
  | succ m ih =>
    match k with
    | 0 => simp [dl]
    | k + 1 => rw [dl, List.getElem?_cons_succ, ih k (by omega), show m + 1 - 1 - (k + 1) = m - 1 - k from by omega]
theorem pow8 (k : Nat) : (2 : Int) ^ (8 * (k + 1)) = 2 ^ (8 * k) * 256 := by
  rw [show 8 * (k + 1) = 8 * k + 8 from by omega, Int.pow_add]; rfl
theorem pow8_pos (k : Nat) : (0 : Int) < 2 ^ (8 * k) := Int.pow_pos (by omega)
theorem shr8 (n : Int) (k : Nat) : n / 2 ^ (8 * k) / 256 = n / 2 ^ (8 * (k + 1)) := by
  rw [pow8, Int.ediv_ediv_of_nonneg (Int.le_of_lt (pow8_pos k))]
theorem shr8_bd (n : Int) (k : Nat) (h : 0 ≤ n) : 0 ≤ n / 2 ^ (8 * k) ∧ n / 2 ^ (8 * k) ≤ n :=
  ⟨Int.ediv_nonneg h (Int.le_of_lt (pow8_pos k)), Int.ediv_le_self _ h⟩
def fxOk (n m : Int) : Bool := inB m 1 7 && decide (0 ≤ n) && decide (n / 2 ^ (8 * m.toNat) = 0)
def fxL (n m : Int) : List Int := if fxOk n m then dl n m.toNat else []
theorem fxL_yes {n : Int} {m : Nat} (h1 : 1 ≤ m) (h7 : m ≤ 7) (h0 : 0 ≤ n) (hf : n / 2 ^ (8 * m) = 0) : fxL n m = dl n m := by
  simp [fxL, fxOk, h0, hf, inB_yes (a := (m : Int)) (b := 1) (c := 7) (by omega) (by omega)]
theorem fxL_no {n m : Int} (h : ¬ (1 ≤ m ∧ m ≤ 7 ∧ 0 ≤ n ∧ n / 2 ^ (8 * m.toNat) = 0)) : fxL n m = [] := by
  have : fxOk n m = false := by
    rw [Bool.eq_false_iff]
    intro k
    apply h
    simp only [fxOk, Bool.and_eq_true, decide_eq_true_eq, inB_iff] at k
    exact ⟨k.1.1.1, k.1.1.2, k.1.2, k.2⟩
  simp [fxL, this]
end Go.Proofs.Ytdbpknmoacjodaa
namespace Go.Proofs.Ytdbpknmoacjodaa
open Go.RowKit Go.PlainAid

theorem strOfNums_back (l : List Int) (h : ∀ x ∈ l, 0 ≤ x ∧ x ≤ 255) : (strOfNums l).data.toList.map (fun b => (b.toNat : Int)) = l := by
  rw [strOfNums_data, List.map_map]
  conv => rhs; rw [← List.map_id l]
  apply List.map_congr_left
  intro x hx
  have := h x hx
  simp only [Function.comp, id, UInt8.toNat_ofNat']
  omega
theorem strOfNums_inj {a b : List Int} (ha : ∀ x ∈ a, 0 ≤ x ∧ x ≤ 255) (hb : ∀ x ∈ b, 0 ≤ x ∧ x ≤ 255) (h : strOfNums a = strOfNums b) : a = b := by
  rw [← strOfNums_back a ha, ← strOfNums_back b hb, h]

def bsl (s : ByteArray) : Nat → Nat → List Int
  | _, 0 => []
  | i, m + 1 => bt s i :: bsl s (i + 1) m
theorem bsl_length (s : ByteArray) (i m : Nat) : (bsl s i m).length = m := by
  induction m generalizing i with
  | zero => rfl
  | succ m ih => simp [bsl, ih]
theorem bsl_bd (s : ByteArray) (i m : Nat) : ∀ x ∈ bsl s i m, 0 ≤ x ∧ x ≤ 255 := by
  induction m generalizing i with
  | zero => simp [bsl]
  | succ m ih =>
    intro x hx
    simp only [bsl, List.mem_cons] at hx
    rcases hx with rfl | hx
    · exact ⟨bt_nonneg s i, bt_le s i⟩
    · exact ih (i + 1) x hx
theorem ofNat_bt (s : ByteArray) (i : Nat) (h : i < s.data.toList.length) : UInt8.ofNat (bt s i).toNat = s.data.toList[i] := by
  have hs : i < s.size := by simpa using h
  rw [← get_bt s i hs, Int.toNat_natCast, UInt8.ofNat_toNat]
  rfl
theorem bsl_data (s : ByteArray) (i m : Nat) (h : i + m ≤ s.size) : (bsl s i m).map (fun n => UInt8.ofNat n.toNat) = (s.data.toList.drop i).take m := by
  induction m generalizing i with
  | zero => simp [bsl]
  | succ m ih =>
    have hl : i < s.data.toList.length := by rw [Array.length_toList]; exact Nat.lt_of_lt_of_le (show i < i + (m + 1) by omega) h
    rw [bsl, List.map_cons, ih (i + 1) (by omega), List.drop_eq_getElem_cons hl, List.take_succ_cons, ofNat_bt s i hl]
theorem extract_bsl (s : ByteArray) (k : Nat) (h : k ≤ s.size) : s.extract 0 k = strOfNums (bsl s 0 k) := by
  have e : (s.extract 0 k).data.toList = (strOfNums (bsl s 0 k)).data.toList := by
    rw [Lib.extract_data, strOfNums_data, bsl_data s 0 k (by omega), Nat.sub_zero]
  have e2 : (s.extract 0 k).data = (strOfNums (bsl s 0 k)).data := by
    rw [← Array.toArray_toList (xs := (s.extract 0 k).data), e, Array.toArray_toList]
  have cl : ∀ a b : ByteArray, a.data = b.data → a = b := by rintro ⟨a⟩ ⟨b⟩ h; cases h; rfl
  exact cl _ _ e2
theorem bytes_ext {a b : ByteArray} (h : a.data.toList = b.data.toList) : a = b := by
  obtain ⟨⟨a⟩⟩ := a
  obtain ⟨⟨b⟩⟩ := b
  simp only at h
  rw [h]
theorem toList_eq_iff (a b : ByteArray) : (a.toList == b.toList) = true ↔ a = b := by
  rw [beq_iff_eq, Lib.toList_data, Lib.toList_data]
  exact ⟨bytes_ext, fun h => by rw [h]⟩
theorem toList_ne {a b : ByteArray} (h : a ≠ b) : (a.toList == b.toList) = false := by
  rw [Bool.eq_false_iff]
  exact fun k => h ((toList_eq_iff a b).1 k)
theorem bsl_snoc (s : ByteArray) (i m : Nat) : bsl s i (m + 1) = bsl s i m ++ [bt s (i + m)] := by
  induction m generalizing i with
  | zero => simp [bsl]
  | succ m ih =>
    rw [bsl, ih (i + 1), bsl, show i + 1 + m = i + (m + 1) from by omega]
    rfl
theorem bsl_at (s : ByteArray) (i m k : Nat) (h : k < m) : (bsl s i m)[k]? = some (bt s (i + k)) := by
  induction m generalizing i k with
  | zero => omega
  | succ m ih =>
    match k with
    | 0 => simp [bsl]
    | k + 1 => rw [bsl, List.getElem?_cons_succ, ih (i + 1) k (by omega), show i + 1 + k = i + (k + 1) from by omega]
theorem all_bsl (s : ByteArray) : s = strOfNums (bsl s 0 s.size) := by
  rw [← extract_bsl s s.size (Nat.le_refl _)]
  refine bytes_ext ?_
  rw [Lib.extract_data, List.drop_zero, Nat.sub_zero, List.take_of_length_le]
  rw [Array.length_toList]
  exact Nat.le_refl _
theorem bt_list (s : ByteArray) (k : Nat) : bt s k = (s.data.toList.map (fun b => (b.toNat : Int))).getD k 0 := by
  unfold bt
  by_cases h : k < s.size
  · rw [dif_pos h]
    have hl : k < s.data.toList.length := by rw [Array.length_toList]; exact h
    simp only [List.getD, List.getElem?_map, List.getElem?_eq_getElem hl, Option.map_some, Option.getD_some]
    rfl
  · rw [dif_neg h]
    have hl : s.data.toList.length ≤ k := by rw [Array.length_toList]; exact Nat.le_of_not_lt h
    simp [List.getD, List.getElem?_eq_none hl]
theorem append_list (a b : ByteArray) : (a ++ b).data.toList = a.data.toList ++ b.data.toList := by
  obtain ⟨⟨a⟩⟩ := a
  obtain ⟨⟨b⟩⟩ := b
  rw [ByteArray.mk_append_mk]
end Go.Proofs.Ytdbpknmoacjodaa
namespace Go.Proofs.Ytdbpknmoacjodaa
open Go.RowKit Go.PlainAid

theorem own_block_ge {w : World} {base n : Nat} {e : TypeId} {size : Nat} {v : Value} {xs : List Value} (h : w.ownsRow base e size v n xs) : ∀ k, v.ownBlock = some k → base ≤ k := by
  intro k hk
  rcases h.2 with ⟨rfl, _⟩ | ⟨g, cap, cur, rfl, hb, _⟩
  · simp [Value.ownBlock] at hk
  · simp only [Value.ownBlock, Option.some.injEq] at hk
    omega

theorem ownB_later {w W : World} {base n : Nat} {e : TypeId} {v : Value} {xs : List Int} (h : OwnB w base e v n xs) (hb : Below w.heap.size w W) : OwnB W base e v n xs := by
  obtain ⟨hl, hc⟩ := h
  refine ⟨hl, ?_⟩
  rcases hc with h | ⟨g, cap, cur, hv, hbase, hg, hn, hm, hcs, ht⟩
  · exact .inl h
  · have hlt : g < w.heap.size := by
      rcases Nat.lt_or_ge g w.heap.size with h | h
      · exact h
      · rw [Array.getElem?_eq_none h] at hg
        cases hg
    exact .inr ⟨g, cap, cur, hv, hbase, (hb.block g hlt).trans hg, hn, hm, hcs, ht⟩

theorem app_byte {P : Program} (w : World) {ops : Array Oper} {rest : List Oper} {o : Oper} {a : Act} {Q : Exit → Act → World → Prop} (hgd : o.guard = none) (s x : Operand) (t : TypeId)
    (ho : o.op = .call { callee := .builtin .append, args := #[s, x], argTypes := #[t, t] })
    (base : Nat) (e : TypeId) (i : TypeInfo) (ht : P.underlying t = some (.slice e)) (hi : P.info? e = some i) (hz : i.zero = some (.int .u8 0)) (hsize : i.size = 1) (hby : i.bytes = 1)
    (v : Value) (n : Nat) (xs : List Int) (hs : a.eval s = v) (hown : OwnB w base e v n xs)
    (b : Int) (hx : a.eval x = .slice (some ⟨w.heap.size, 0, none⟩) 1 1) (hn : n + 1 ≤ 140737488355328) (hbase : base ≤ w.heap.size)
    (h : ∀ v' w', OwnB w' base e v' (n + 1) (xs ++ [b]) → Below base w w' → wpList P ops Q rest (a.put o.dst v') w') :
    wpList P ops Q (o :: rest) a (w.alloc (.cells #[.int .u8 b] e)) := by
  refine wpList_append_own _ hgd s x t ho base e i (.int .u8 0) 1 1 ht hi hz hsize hby rfl (by decide) v n _ hs (World.ownsRow.alloc hown _) ⟨w.heap.size, 0, none⟩ 1 1 [.int .u8 b] hx rfl ?_ ?_ ?_ ?_ ?_ ?_
  · intro j u hj
    match j, hj with
    | 0, hj =>
      simp at hj
      subst hj
      simp [Addr.add]
  · intro u hu
    simp at hu
    subst hu
    rfl
  · unfold maxLen; omega
  · omega
  · simp; omega
  · intro v' w' h1 h2 _
    refine h v' w' ?_ ?_
    · unfold OwnB; rw [List.map_append]; exact h1
    · exact ((Below.refl base w).alloc hbase _).grown h2 (by simp; omega) (own_block_ge hown)

theorem app_two {P : Program} (w : World) {ops : Array Oper} {rest : List Oper} {o : Oper} {a : Act} {Q : Exit → Act → World → Prop} (hgd : o.guard = none) (s x : Operand) (t : TypeId)
    (ho : o.op = .call { callee := .builtin .append, args := #[s, x], argTypes := #[t, t] })
    (base : Nat) (e : TypeId) (i : TypeInfo) (ht : P.underlying t = some (.slice e)) (hi : P.info? e = some i) (hz : i.zero = some (.int .u8 0)) (hsize : i.size = 1) (hby : i.bytes = 1)
    (v : Value) (n : Nat) (xs : List Int) (hs : a.eval s = v) (hown : OwnB w base e v n xs)
    (b c : Int) (hx : a.eval x = .slice (some ⟨w.heap.size, 0, none⟩) 2 2) (hn : n + 2 ≤ 140737488355328) (hbase : base ≤ w.heap.size)
    (h : ∀ v' w', OwnB w' base e v' (n + 2) (xs ++ [b, c]) → Below base w w' → wpList P ops Q rest (a.put o.dst v') w') :
    wpList P ops Q (o :: rest) a (w.alloc (.cells #[.int .u8 b, .int .u8 c] e)) := by
  refine wpList_append_own _ hgd s x t ho base e i (.int .u8 0) 1 1 ht hi hz hsize hby rfl (by decide) v n _ hs (World.ownsRow.alloc hown _) ⟨w.heap.size, 0, none⟩ 2 2 [.int .u8 b, .int .u8 c] hx rfl ?_ ?_ ?_ ?_ ?_ ?_
  · intro j u hj
    match j, hj with
    | 0, hj =>
      simp at hj
      subst hj
      simp [Addr.add]
    | 1, hj =>
      simp at hj
      subst hj
      simp [Addr.add]
  · intro u hu
    simp at hu
    rcases hu with rfl | rfl <;> rfl
  · unfold maxLen; omega
  · omega
  · simp; omega
  · intro v' w' h1 h2 _
    refine h v' w' ?_ ?_
    · unfold OwnB; rw [List.map_append]; exact h1
    · exact ((Below.refl base w).alloc hbase _).grown h2 (by simp; omega) (own_block_ge hown)

theorem step_two {P : Program} {ops : Array Oper} {o : Oper} {a : Act} {W : World} {K : Act → World → Prop} {Q : Exit → Act → World → Prop} {E : Prop} (hg : o.guard = none) (s x : Operand) (t : TypeId)
    (ho : o.op = .call { callee := .builtin .append, args := #[s, x], argTypes := #[t, t] })
    (base : Nat) (e : TypeId) (i : TypeInfo) (ht : P.underlying t = some (.slice e)) (hi : P.info? e = some i) (hz : i.zero = some (.int .u8 0)) (hsize : i.size = 1) (hby : i.bytes = 1)
    (v : Value) (n : Nat) (xs : List Int) (hs : a.eval s = v) (hown : OwnB W base e v n xs)
    (g : Nat) (b c : Int) (hx : a.eval x = .slice (some ⟨g, 0, none⟩) 2 2) (h0 : W.cell? ⟨g, 0, none⟩ = some (.int .u8 b)) (h1 : W.cell? ⟨g, 1, none⟩ = some (.int .u8 c)) (hn : n + 2 ≤ 140737488355328) (hbase : base ≤ W.heap.size)
    (h : ∀ v' w', OwnB w' base e v' (n + 2) (xs ++ [b, c]) → Below base W w' → K (a.put o.dst v') w') :
    if Region.wanted o (yielded ops a.tmps) = true then Oper.wp P o a W K Q else E := by
  have hw : Region.wanted o (yielded ops a.tmps) = true := by simp [Region.wanted, hg]
  rw [if_pos hw]
  refine wp_append_own W s x t ho base e i (.int .u8 0) 1 1 ht hi hz hsize hby rfl (by decide) v n _ hs hown ⟨g, 0, none⟩ 2 2 [.int .u8 b, .int .u8 c] hx rfl ?_ ?_ ?_ ?_ hbase ?_
  · intro j u hj
    match j, hj with
    | 0, hj =>
      simp at hj
      subst hj
      simpa [Addr.add] using h0
    | 1, hj =>
      simp at hj
      subst hj
      simpa [Addr.add] using h1
  · intro u hu
    simp at hu
    rcases hu with rfl | rfl <;> rfl
  · unfold maxLen; omega
  · omega
  · intro v' w' k1 k2 _
    refine h v' w' ?_ ?_
    · unfold OwnB; rw [List.map_append]; exact k1
    · exact (Below.refl base W).grown k2 hbase (own_block_ge hown)
end Go.Proofs.Ytdbpknmoacjodaa
namespace Go.Proofs.Ytdbpknmoacjodaa
open Go.RowKit Go.PlainAid

abbrev okc (c : Int) : Prop := (97 ≤ c ∧ c ≤ 122) ∨ (48 ≤ c ∧ c ≤ 57) ∨ c = 46 ∨ c = 95 ∨ c = 45 ∨ c = 47
abbrev PathP (s : ByteArray) : Prop := 1 ≤ s.size ∧ s.size ≤ 40 ∧ bt s 0 = 47 ∧ ∀ j, j < s.size → okc (bt s j)
def pathB (s : ByteArray) : Bool := decide (PathP s)
theorem pathB_yes {s : ByteArray} (h : PathP s) : pathB s = true := decide_eq_true h
theorem pathB_no {s : ByteArray} (h : ¬ PathP s) : pathB s = false := decide_eq_false h
theorem pathB_iff {s : ByteArray} : pathB s = true ↔ PathP s := decide_eq_true_iff

def upd (p : ByteArray) (l : List ByteArray) : List ByteArray :=
  if p.toList.isEmpty = true ∨ (p.toList == [46]) = true then l else if (p.toList == [46, 46]) = false then l ++ [p] else l.dropLast
def clStep (s : ByteArray) (i : Nat) (st : Nat × List ByteArray) : Nat × List ByteArray :=
  if i < s.size ∧ bt s i ≠ 47 then st else (i + 1, upd (s.extract st.1 i) st.2)
def clTo (s : ByteArray) : Nat → Nat × List ByteArray
  | 0 => (0, [])
  | k + 1 => clStep s k (clTo s k)
theorem upd_len (p : ByteArray) (l : List ByteArray) : (upd p l).length ≤ l.length + 1 := by
  unfold upd
  split
  · omega
  · split
    · simp
    · simp; omega
theorem clTo_bd (s : ByteArray) (k : Nat) : (clTo s k).1 ≤ k ∧ (clTo s k).2.length ≤ k := by
  induction k with
  | zero => simp [clTo]
  | succ k ih =>
    have h := upd_len (s.extract (clTo s k).1 k) (clTo s k).2
    unfold clTo clStep
    split
    · omega
    · simp only; omega
theorem clTo_on {s : ByteArray} {k : Nat} (h1 : k < s.size) (h2 : bt s k ≠ 47) : clTo s (k + 1) = clTo s k := by rw [clTo, clStep, if_pos ⟨h1, h2⟩]
theorem clTo_part {s : ByteArray} {k : Nat} (h : ¬ (k < s.size ∧ bt s k ≠ 47)) : clTo s (k + 1) = (k + 1, upd (s.extract (clTo s k).1 k) (clTo s k).2) := by rw [clTo, clStep, if_neg h]
theorem upd_empty {p : ByteArray} {l : List ByteArray} (h : p.toList.isEmpty = true) : upd p l = l := by rw [upd, if_pos (.inl h)]
theorem upd_point {p : ByteArray} {l : List ByteArray} (h : (p.toList == [46]) = true) : upd p l = l := by rw [upd, if_pos (.inr h)]
theorem upd_name {p : ByteArray} {l : List ByteArray} (h0 : p.toList.isEmpty = false) (h1 : (p.toList == [46]) = false) (h2 : (p.toList == [46, 46]) = false) : upd p l = l ++ [p] := by
  rw [upd, if_neg (by rw [h0, h1]; simp), if_pos h2]
theorem upd_up {p : ByteArray} {l : List ByteArray} (h0 : p.toList.isEmpty = false) (h1 : (p.toList == [46]) = false) (h2 : (p.toList == [46, 46]) = true) : upd p l = l.dropLast := by
  rw [upd, if_neg (by rw [h0, h1]; simp), if_neg (by rw [h2]; simp)]
def parts (s : ByteArray) : List ByteArray := (clTo s (s.size + 1)).2
def joinTo (l : List ByteArray) : Nat → ByteArray
  | 0 => { data := #[] }
  | k + 1 => joinTo l k ++ { data := #[47] } ++ l.getD k { data := #[] }
def cleanS (s : ByteArray) : ByteArray := if pathB s then (if (parts s).length = 0 then { data := #[47] } else joinTo (parts s) (parts s).length) else { data := #[] }
theorem cleanS_no {s : ByteArray} (h : pathB s = false) : cleanS s = { data := #[] } := by rw [cleanS, h]; rfl
theorem cleanS_root {s : ByteArray} (h : pathB s = true) (hp : (parts s).length = 0) : cleanS s = { data := #[47] } := by rw [cleanS, h, if_pos rfl, if_pos hp]
theorem cleanS_yes {s : ByteArray} (h : pathB s = true) (hp : ¬ (parts s).length = 0) : cleanS s = joinTo (parts s) (parts s).length := by rw [cleanS, h, if_pos rfl, if_neg hp]
theorem upd_sizes (p : ByteArray) (l : List ByteArray) (B : Nat) (hp : p.size ≤ B) (hl : ∀ x ∈ l, x.size ≤ B) : ∀ x ∈ upd p l, x.size ≤ B := by
  intro x hx
  unfold upd at hx
  split at hx
  · exact hl x hx
  · split at hx
    · simp only [List.mem_append, List.mem_singleton] at hx
      rcases hx with hx | rfl
      · exact hl x hx
      · exact hp
    · exact hl x ((List.dropLast_sublist l).subset hx)
theorem clTo_sizes (s : ByteArray) (k : Nat) : ∀ x ∈ (clTo s k).2, x.size ≤ s.size := by
  induction k with
  | zero => simp [clTo]
  | succ k ih =>
    unfold clTo clStep
    split
    · exact ih
    · exact upd_sizes _ _ _ (by rw [ByteArray.size_extract]; omega) ih
theorem getD_size (s : ByteArray) (l : List ByteArray) (h : ∀ x ∈ l, x.size ≤ s.size) (k : Nat) : (l.getD k { data := #[] }).size ≤ s.size := by
  by_cases hk : k < l.length
  · have e : l.getD k { data := #[] } = l[k] := by simp [List.getD, List.getElem?_eq_getElem hk]
    rw [e]
    exact h _ (List.getElem_mem hk)
  · have e : l.getD k { data := #[] } = { data := #[] } := by simp [List.getD, List.getElem?_eq_none (Nat.le_of_not_lt hk)]
    rw [e]
    exact Nat.zero_le _
theorem joinTo_size (s : ByteArray) (l : List ByteArray) (h : ∀ x ∈ l, x.size ≤ s.size) (k : Nat) : (joinTo l k).size ≤ k * (s.size + 1) := by
  induction k with
  | zero => exact Nat.zero_le _
  | succ k ih =>
    have := getD_size s l h k
    rw [joinTo, ByteArray.size_append, ByteArray.size_append, Nat.succ_mul]
    have e : ({ data := #[47] } : ByteArray).size = 1 := rfl
    omega

def OwnS (w : World) (base : Nat) (e : TypeId) (g n cap : Nat) (xs : List ByteArray) : Prop := w.ownsRow base e 1 (.slice (some ⟨g, 0, none⟩) n cap) n (xs.map Value.string) ∧ n = xs.length
theorem ownS_len {w : World} {base g n cap : Nat} {e : TypeId} {xs : List ByteArray} (h : OwnS w base e g n cap xs) : n = xs.length := h.2
theorem ownS_cap {w : World} {base g n cap : Nat} {e : TypeId} {xs : List ByteArray} (h : OwnS w base e g n cap xs) : n ≤ cap ∧ cap ≤ 9223372036854775807 ∧ base ≤ g := by
  rcases h.1.2 with ⟨h', _⟩ | ⟨g', cap', cur, h', hb, _, hn, hm, _⟩
  · simp at h'
  · simp only [Value.slice.injEq, Option.some.injEq, Addr.mk.injEq, and_true, true_and] at h'
    obtain ⟨rfl, rfl⟩ := h'
    unfold maxLen at hm
    exact ⟨hn, by omega, hb⟩
theorem ownS_cell {w : World} {base g n cap : Nat} {e : TypeId} {xs : List ByteArray} (h : OwnS w base e g n cap xs) (j : Nat) (hj : j < n) : w.cell? ⟨g, j, none⟩ = some (.string (xs.getD j { data := #[] })) := by
  have hl := h.2
  rw [h.1.cellAt j (by omega)]
  simp [List.getD, List.getElem?_eq_getElem (show j < xs.length by omega)]
theorem ownS_pop {w : World} {base g n cap : Nat} {e : TypeId} {xs : List ByteArray} (h : OwnS w base e g (n + 1) cap xs) : OwnS w base e g n cap xs.dropLast := by
  obtain ⟨⟨hl, hc⟩, hn⟩ := h
  rw [List.length_map] at hl
  refine ⟨⟨by rw [List.length_map, List.length_dropLast]; omega, ?_⟩, by rw [List.length_dropLast]; omega⟩
  rcases hc with ⟨h', _⟩ | ⟨g', cap', cur, h', hb, hg, hnc, hm, hcs, ht⟩
  · simp at h'
  · simp only [Value.slice.injEq, Option.some.injEq, Addr.mk.injEq, and_true, true_and] at h'
    obtain ⟨rfl, rfl⟩ := h'
    refine .inr ⟨g, cap, cur, rfl, hb, hg, by omega, hm, hcs, ?_⟩
    rw [List.map_dropLast, ← ht, List.dropLast_eq_take, List.length_take, List.take_take]
    congr 1
    have : cur.toList.length = cap := by rw [Array.length_toList, hcs, Nat.mul_one]
    omega
theorem app_str {P : Program} (w : World) {ops : Array Oper} {rest : List Oper} {o : Oper} {a : Act} {Q : Exit → Act → World → Prop} (hgd : o.guard = none) (s x : Operand) (t : TypeId)
    (ho : o.op = .call { callee := .builtin .append, args := #[s, x], argTypes := #[t, t] })
    (base : Nat) (e : TypeId) (i : TypeInfo) (z : Value) (ht : P.underlying t = some (.slice e)) (hi : P.info? e = some i) (hz : i.zero = some z) (hsize : i.size = 1) (hby : i.bytes = 16) (hzs : z.cells.size = 1)
    (g n cap : Nat) (xs : List ByteArray) (hs : a.eval s = .slice (some ⟨g, 0, none⟩) n cap) (hown : OwnS w base e g n cap xs)
    (b : ByteArray) (hx : a.eval x = .slice (some ⟨w.heap.size, 0, none⟩) 1 1) (hn : n + 1 ≤ 100000000) (hbase : base ≤ w.heap.size)
    (h : ∀ g' cap' w', OwnS w' base e g' (n + 1) cap' (xs ++ [b]) → Below base w w' → wpList P ops Q rest (a.put o.dst (.slice (some ⟨g', 0, none⟩) (n + 1) cap')) w') :
    wpList P ops Q (o :: rest) a (w.alloc (.cells #[.string b] e)) := by
  refine wpList_append_own _ hgd s x t ho base e i z 1 16 ht hi hz hsize hby hzs (by decide) _ n _ hs (hown.1.alloc _) ⟨w.heap.size, 0, none⟩ 1 1 [.string b] hx rfl ?_ ?_ ?_ ?_ ?_ ?_
  · intro j u hj
    match j, hj with
    | 0, hj =>
      simp at hj
      subst hj
      simp [Addr.add]
  · intro u hu
    simp at hu
    subst hu
    rfl
  · unfold maxLen; omega
  · omega
  · simp; omega
  · intro v' w' h1 h2 h3
    have hb : Below base w w' := ((Below.refl base w).alloc hbase _).grown h2 (by simp; omega) (own_block_ge hown.1)
    rcases h1.2 with ⟨hv, _⟩ | ⟨g', cap', cur, rfl, hrest⟩
    · have := (h3.1 hv).1
      simp at this
    · refine h g' cap' w' ⟨?_, by rw [List.length_append]; have := hown.2; simp; omega⟩ hb
      rw [List.map_append]
      exact h1
theorem ownS_later {w W : World} {base g n cap : Nat} {e : TypeId} {xs : List ByteArray} (h : OwnS w base e g n cap xs) (hb : Below w.heap.size w W) : OwnS W base e g n cap xs := by
  refine ⟨⟨h.1.1, ?_⟩, h.2⟩
  rcases h.1.2 with k | ⟨g', cap', cur, hv, hbase, hg, hn, hm, hcs, ht⟩
  · exact .inl k
  · have hlt : g' < w.heap.size := by
      rcases Nat.lt_or_ge g' w.heap.size with k | k
      · exact k
      · rw [Array.getElem?_eq_none k] at hg
        cases hg
    exact .inr ⟨g', cap', cur, hv, hbase, (hb.block g' hlt).trans hg, hn, hm, hcs, ht⟩
def begB (a s : ByteArray) : Bool := decide (a.size ≤ s.size) && ((s.extract 0 a.size).toList == a.toList)
end Go.Proofs.Ytdbpknmoacjodaa
namespace Go.Proofs.Ytdbpknmoacjodaa
open Go.RowKit Go.PlainAid

structure FilesAt (w : World) (a : Option Addr) (b off len : Nat) (Pt Tx : Nat → ByteArray) : Prop where
  addr : 0 < len → a = some ⟨b, off, none⟩
  lt : 0 < len → b < w.heap.size
  path : ∀ j, j < len → w.cell? ⟨b, off + j * 2, none⟩ = some (.string (Pt j))
  text : ∀ j, j < len → w.cell? ⟨b, off + j * 2 + 1, none⟩ = some (.string (Tx j))
theorem FilesAt.later {w w' : World} {a : Option Addr} {b off len : Nat} {Pt Tx : Nat → ByteArray} (h : FilesAt w a b off len Pt Tx) (hb : Below w.heap.size w w') : FilesAt w' a b off len Pt Tx :=
  ⟨h.addr, fun k => Nat.lt_of_lt_of_le (h.lt k) hb.size, fun j hj => by rw [hb.cell (h.lt (by omega))]; exact h.path j hj, fun j hj => by rw [hb.cell (h.lt (by omega))]; exact h.text j hj⟩

def OwnF (w : World) (base : Nat) (e : TypeId) (g len k : Nat) (Pt Tx : Nat → ByteArray) : Prop :=
  ∃ xs, w.ownsRow base e 2 (.slice (some ⟨g, 0, none⟩) len len) len xs ∧ ∀ j, j < k → xs[j * 2]? = some (.string (Pt j)) ∧ xs[j * 2 + 1]? = some (.string (Tx j))
theorem OwnF.has {w : World} {base g len k : Nat} {e : TypeId} {Pt Tx : Nat → ByteArray} (h : OwnF w base e g len k Pt Tx) (j : Nat) (hj : j < len * 2) : ∃ v, w.cell? ⟨g, j, none⟩ = some v := by
  obtain ⟨xs, h1, _⟩ := h
  have hl := h1.1
  rw [h1.cellAt j hj]
  exact ⟨_, List.getElem?_eq_getElem (by omega)⟩
theorem OwnF.free {w : World} {base g len k : Nat} {e : TypeId} {Pt Tx : Nat → ByteArray} (h : OwnF w base e g len k Pt Tx) (j : Nat) : w.frozen? ⟨g, j, none⟩ = false := by
  obtain ⟨xs, h1, _⟩ := h
  exact h1.frozenAt j
theorem OwnF.fill {w : World} {base g len k : Nat} {e : TypeId} {Pt Tx : Nat → ByteArray} (h : OwnF w base e g len k Pt Tx) (hk : k < len) :
    OwnF ((w.setCell ⟨g, k * 2, none⟩ (.string (Pt k))).setCell ⟨g, k * 2 + 1, none⟩ (.string (Tx k))) base e g len (k + 1) Pt Tx := by
  obtain ⟨xs, h1, h2⟩ := h
  have hl := h1.1
  refine ⟨_, ((h1.stored (k * 2) (.string (Pt k))).1.stored (k * 2 + 1) (.string (Tx k))).1, fun j hj => ?_⟩
  by_cases e : j = k
  · subst e
    constructor
    · rw [List.getElem?_set, if_neg (by omega), List.getElem?_set, if_pos rfl, if_pos (by omega)]
    · rw [List.getElem?_set, if_pos rfl, if_pos (by rw [List.length_set]; omega)]
  · have h3 := h2 j (by omega)
    rw [List.getElem?_set, if_neg (by omega), List.getElem?_set, if_neg (by omega), List.getElem?_set, if_neg (by omega), List.getElem?_set, if_neg (by omega)]
    exact h3
theorem OwnF.lt {w : World} {base g len k : Nat} {e : TypeId} {Pt Tx : Nat → ByteArray} (h : OwnF w base e g len k Pt Tx) : g < w.heap.size ∧ base ≤ g := by
  obtain ⟨xs, h1, _⟩ := h
  rcases h1.2 with ⟨h', _⟩ | ⟨g', cap', cur, h', hb, hg, _⟩
  · simp at h'
  · simp only [Value.slice.injEq, Option.some.injEq, Addr.mk.injEq, and_true, true_and] at h'
    obtain ⟨rfl, rfl⟩ := h'
    exact ⟨(Array.getElem?_eq_some_iff.1 hg).1, hb⟩
theorem OwnF.files {w : World} {base g len : Nat} {e : TypeId} {Pt Tx : Nat → ByteArray} (h : OwnF w base e g len len Pt Tx) : FilesAt w (some ⟨g, 0, none⟩) g 0 len Pt Tx := by
  have hlt := h.lt.1
  obtain ⟨xs, h1, h2⟩ := h
  refine ⟨fun _ => rfl, fun _ => hlt, fun j hj => ?_, fun j hj => ?_⟩
  · rw [Nat.zero_add, h1.cellAt _ (by omega)]
    exact (h2 j hj).1
  · rw [Nat.zero_add, h1.cellAt _ (by omega)]
    exact (h2 j hj).2
theorem OwnF.later {w w' : World} {base g len k : Nat} {e : TypeId} {Pt Tx : Nat → ByteArray} (h : OwnF w base e g len k Pt Tx) (hb : Below w.heap.size w w') : OwnF w' base e g len k Pt Tx := by
  have hlt := h.lt.1
  obtain ⟨xs, h1, h2⟩ := h
  refine ⟨xs, ⟨h1.1, ?_⟩, h2⟩
  rcases h1.2 with k | ⟨g', cap', cur, hv, hbase, hg, hr⟩
  · exact .inl k
  · simp only [Value.slice.injEq, Option.some.injEq, Addr.mk.injEq, and_true, true_and] at hv
    obtain ⟨rfl, rfl⟩ := hv
    exact .inr ⟨g, len, cur, rfl, hbase, (hb.block g hlt).trans hg, hr⟩

theorem box_cells {w w1 : World} {p t : ByteArray} {e : TypeId} (hb : Below (w.alloc (.cells #[.string p, .string t] e)).heap.size (w.alloc (.cells #[.string p, .string t] e)) w1) :
    w1.cell? ⟨w.heap.size, 0, none⟩ = some (.string p) ∧ w1.cell? ⟨w.heap.size, 1, none⟩ = some (.string t) ∧ Below w.heap.size w w1 := by
  have hs : (w.alloc (.cells #[.string p, .string t] e)).heap.size = w.heap.size + 1 := by show (w.heap.push _).size = _; simp
  have h1 : Below w.heap.size w (w.alloc (.cells #[.string p, .string t] e)) := (Below.refl _ _).alloc (Nat.le_refl _) _
  refine ⟨?_, ?_, h1.trans (hb.mono h1.size)⟩
  · rw [hb.cell (by show w.heap.size < _; omega), World.cell?_alloc_new]; rfl
  · rw [hb.cell (by show w.heap.size < _; omega), World.cell?_alloc_new]; rfl
def fpB (p : ByteArray) : Bool := pathB p && !(p.toList == [47]) && ((cleanS p).toList == p.toList)
def fileB (p t : ByteArray) : Bool := fpB p && decide ((t.size : Int) ≤ 1500)
abbrev FilesP (len : Nat) (Pt Tx : Nat → ByteArray) : Prop := len ≤ 8 ∧ ∀ k, k < len → fileB (Pt k) (Tx k) = true ∧ (0 < k → Op.bytesLess (Pt (k - 1)).toList (Pt k).toList = true)
def filesB (len : Nat) (Pt Tx : Nat → ByteArray) : Bool := decide (FilesP len Pt Tx)
theorem filesB_yes {len : Nat} {Pt Tx : Nat → ByteArray} (h : FilesP len Pt Tx) : filesB len Pt Tx = true := decide_eq_true h
theorem filesB_no {len : Nat} {Pt Tx : Nat → ByteArray} (h : ¬ FilesP len Pt Tx) : filesB len Pt Tx = false := decide_eq_false h
theorem filesB_iff {len : Nat} {Pt Tx : Nat → ByteArray} : filesB len Pt Tx = true ↔ FilesP len Pt Tx := decide_eq_true_iff
abbrev FilesTo (k : Nat) (Pt Tx : Nat → ByteArray) : Prop := ∀ j, j < k → fileB (Pt j) (Tx j) = true ∧ (0 < j → Op.bytesLess (Pt (j - 1)).toList (Pt j).toList = true)
theorem filesTo_next {k : Nat} {Pt Tx : Nat → ByteArray} (h : FilesTo k Pt Tx) (h1 : fileB (Pt k) (Tx k) = true) (h2 : 0 < k → Op.bytesLess (Pt (k - 1)).toList (Pt k).toList = true) : FilesTo (k + 1) Pt Tx := by
  intro j hj
  by_cases e : j = k
  · subst e; exact ⟨h1, h2⟩
  · exact h j (by omega)
theorem fpB_no_path {p : ByteArray} (h : pathB p = false) : fpB p = false := by rw [fpB, h]; rfl
theorem fpB_root {p : ByteArray} (h : (p.toList == [47]) = true) : fpB p = false := by rw [fpB, h]; simp
theorem fpB_clean {p : ByteArray} (h : ((cleanS p).toList == p.toList) = false) : fpB p = false := by rw [fpB, h]; simp
theorem fpB_yes {p : ByteArray} (h0 : pathB p = true) (h1 : (p.toList == [47]) = false) (h2 : ((cleanS p).toList == p.toList) = true) : fpB p = true := by rw [fpB, h0, h1, h2]; rfl
theorem fpB_empty {p : ByteArray} (h : p.toList.isEmpty = true) : fpB p = false := by
  have hz : p.size = 0 := by
    rw [Lib.toList_data] at h
    have e : p.data.toList.length = p.size := by rw [Array.length_toList]; rfl
    rw [List.isEmpty_iff.1 h] at e
    exact e.symm
  refine fpB_no_path (pathB_no fun k => ?_)
  have := k.1
  omega
theorem path_of_clean {p : ByteArray} (h0 : p.toList.isEmpty = false) (h2 : ((cleanS p).toList == p.toList) = true) : pathB p = true := by
  cases hp : pathB p with
  | true => rfl
  | false =>
    rw [cleanS_no hp] at h2
    have e := (toList_eq_iff _ _).1 h2
    rw [← e, Lib.toList_data] at h0
    cases h0
theorem fileB_path {p t : ByteArray} (h : fpB p = false) : fileB p t = false := by rw [fileB, h]; rfl
theorem fileB_text {p t : ByteArray} (h : ¬ (t.size : Int) ≤ 1500) : fileB p t = false := by rw [fileB, decide_eq_false h]; simp
theorem fileB_yes {p t : ByteArray} (h : fpB p = true) (ht : (t.size : Int) ≤ 1500) : fileB p t = true := by rw [fileB, h, decide_eq_true ht]; rfl

def findTo (Pt Tx : Nat → ByteArray) (q : ByteArray) : Nat → ByteArray × Bool
  | 0 => ({ data := #[] }, false)
  | k + 1 => if (findTo Pt Tx q k).2 = true then findTo Pt Tx q k else if Pt k = q then (Tx k, true) else ({ data := #[] }, false)
def findS (len : Nat) (Pt Tx : Nat → ByteArray) (q : ByteArray) : ByteArray × Bool := if filesB len Pt Tx = true then findTo Pt Tx q len else ({ data := #[] }, false)
theorem findTo_none {Pt Tx : Nat → ByteArray} {q : ByteArray} (k : Nat) (h : ∀ j, j < k → Pt j ≠ q) : findTo Pt Tx q k = ({ data := #[] }, false) := by
  induction k with
  | zero => rfl
  | succ k ih => rw [findTo, ih (fun j hj => h j (by omega)), if_neg (by simp), if_neg (h k (by omega))]
theorem findTo_at {Pt Tx : Nat → ByteArray} {q : ByteArray} {k : Nat} (hk : Pt k = q) (h : ∀ j, j < k → Pt j ≠ q) (m : Nat) (hm : k < m) : findTo Pt Tx q m = (Tx k, true) := by
  induction m with
  | zero => omega
  | succ m ih =>
    rw [findTo]
    by_cases e : k = m
    · subst e
      rw [findTo_none k h, if_neg (by simp), if_pos hk]
    · rw [ih (by omega), if_pos rfl]
theorem findS_bad {len : Nat} {Pt Tx : Nat → ByteArray} {q : ByteArray} (h : filesB len Pt Tx = false) : findS len Pt Tx q = ({ data := #[] }, false) := by rw [findS, h]; rfl
theorem findS_at {len : Nat} {Pt Tx : Nat → ByteArray} {q : ByteArray} {k : Nat} (hb : filesB len Pt Tx = true) (hlt : k < len) (hk : Pt k = q) (h : ∀ j, j < k → Pt j ≠ q) : findS len Pt Tx q = (Tx k, true) := by
  rw [findS, if_pos hb, findTo_at hk h len hlt]
theorem findS_none {len : Nat} {Pt Tx : Nat → ByteArray} {q : ByteArray} (h : ∀ j, j < len → Pt j ≠ q) : findS len Pt Tx q = ({ data := #[] }, false) := by
  rw [findS]
  split
  · exact findTo_none len h
  · rfl
end Go.Proofs.Ytdbpknmoacjodaa
namespace Go.Proofs.Ytdbpknmoacjodaa
open Go.RowKit Go.PlainAid

def vl : Nat → Int → List Int
  | 0, q => [q]
  | f + 1, q => if q < 128 then [q] else (q % 128 + 128) :: vl f (q / 128)
theorem vl_small (f : Nat) (q : Int) (h : q < 128) : vl f q = [q] := by cases f <;> simp [vl, h]
theorem vl_more (f : Nat) (q : Int) (h : ¬ q < 128) : vl (f + 1) q = (q % 128 + 128) :: vl f (q / 128) := by simp [vl, h]
theorem vl_length (f : Nat) (q : Int) : 1 ≤ (vl f q).length ∧ (vl f q).length ≤ f + 1 := by
  induction f generalizing q with
  | zero => simp [vl]
  | succ f ih =>
    simp only [vl]
    split
    · simp
    · have := ih (q / 128)
      simp; omega
def VarAt (n : Int) (k : Nat) (acc : List Int) (q : Int) : Prop :=
  k ≤ 6 ∧ acc.length = k ∧ 0 ≤ q ∧ q ≤ n ∧ q * 128 ^ k ≤ n ∧ acc ++ vl (6 - k) q = vl 6 n
theorem varAt_start (n : Int) (h : 0 ≤ n) : VarAt n 0 [] n := ⟨by omega, rfl, h, by omega, by simp, rfl⟩
theorem varAt_lt {n : Int} {k : Nat} {acc : List Int} {q : Int} (h : VarAt n k acc q) (hn : n ≤ 562949953421311) (hq : ¬ q < 128) : k < 6 := by
  obtain ⟨h6, -, h0, -, hp, -⟩ := h
  rcases Nat.lt_or_ge k 6 with h | h
  · exact h
  · obtain rfl : k = 6 := by omega
    exfalso
    rw [show (128 : Int) ^ 6 = 4398046511104 from by decide] at hp
    omega
theorem varAt_next {n : Int} {k : Nat} {acc : List Int} {q : Int} (h : VarAt n k acc q) (hn : n ≤ 562949953421311) (hq : ¬ q < 128) : VarAt n (k + 1) (acc ++ [q % 128 + 128]) (q / 128) := by
  have hk := varAt_lt h hn hq
  obtain ⟨h6, hl, h0, hqn, hp, he⟩ := h
  refine ⟨by omega, by simp [hl], by omega, by omega, ?_, ?_⟩
  · have h1 : q / 128 * 128 ≤ q := by omega
    have h2 : q / 128 * 128 ^ (k + 1) = q / 128 * 128 * 128 ^ k := by rw [Int.pow_succ, Int.mul_assoc, Int.mul_comm (128 ^ k) 128]
    rw [h2]
    exact Int.le_trans (Int.mul_le_mul_of_nonneg_right h1 (Int.le_of_lt (Int.pow_pos (by omega)))) hp
  · rw [← he, show 6 - k = (6 - (k + 1)) + 1 from by omega, vl_more _ _ hq, List.append_assoc]
    rfl
theorem varAt_end {n : Int} {k : Nat} {acc : List Int} {q : Int} (h : VarAt n k acc q) (hq : q < 128) : acc ++ [q] = vl 6 n := by
  obtain ⟨-, -, -, -, -, he⟩ := h
  rw [← he, vl_small _ _ hq]
def varL (n : Int) : List Int := if inB n 0 562949953421311 then vl 6 n else []
theorem varL_yes {n : Int} (h0 : 0 ≤ n) (h1 : n ≤ 562949953421311) : varL n = vl 6 n := by simp [varL, inB_yes h0 h1]
theorem varL_no {n : Int} (h : ¬ (0 ≤ n ∧ n ≤ 562949953421311)) : varL n = [] := by simp [varL, inB_no h]
end Go.Proofs.Ytdbpknmoacjodaa
namespace Go.Proofs.Ytdbpknmoacjodaa
open Go.RowKit Go.PlainAid

def upTo (c : ByteArray) : Nat → List ByteArray
  | 0 => []
  | k + 1 => (if bt c (k + 1) = 47 then [c.extract 0 (k + 1)] else []) ++ upTo c k
def upC (c : ByteArray) : List ByteArray := upTo c (c.size - 1) ++ if 1 < c.size then [{ data := #[47] }] else []
def upL (p : ByteArray) : List ByteArray := upC (cleanS p)
theorem upTo_yes {c : ByteArray} {k : Nat} (h : bt c (k + 1) = 47) : upTo c (k + 1) = c.extract 0 (k + 1) :: upTo c k := by rw [upTo, if_pos h]; rfl
theorem upTo_no {c : ByteArray} {k : Nat} (h : bt c (k + 1) ≠ 47) : upTo c (k + 1) = upTo c k := by rw [upTo, if_neg h]; rfl
theorem upTo_len (c : ByteArray) (k : Nat) : (upTo c k).length ≤ k := by
  induction k with
  | zero => exact Nat.le_refl _
  | succ k ih =>
    rw [upTo, List.length_append]
    split
    · simp; omega
    · simp; omega
theorem world_anyU {P : Program} {code : Code} {Q : Exit → Act → World → Prop} {a : Act} {w0 : World} {R : World → Prop} (h0 : R w0) (h : ∀ W, R W → Code.wp P code Q a W) : Code.wp P code Q a w0 := h w0 h0
theorem hidU {p : Prop} (h : p) : Hid p := h
end Go.Proofs.Ytdbpknmoacjodaa
namespace Go.Proofs.Ytdbpknmoacjodaa
open Go.RowKit Go.PlainAid

def pieceS (s : ByteArray) : ByteArray := strOfNums (varL (s.size : Int)) ++ s
def showTo (h : ByteArray) (Pt Tx : Nat → ByteArray) : Nat → ByteArray
  | 0 => h
  | k + 1 => showTo h Pt Tx k ++ pieceS (Pt k) ++ pieceS (Tx k)
def headF (len : Nat) : ByteArray := ({ data := #[102] } : ByteArray) ++ strOfNums (varL (len : Int))
def showS (len : Nat) (Pt Tx : Nat → ByteArray) : ByteArray := if filesB len Pt Tx then showTo (headF len) Pt Tx len else { data := #[] }
theorem varL_le (n : Int) : (varL n).length ≤ 7 := by
  unfold varL
  split
  · exact (vl_length 6 n).2
  · exact Nat.zero_le _
theorem var_size (n : Int) : (strOfNums (varL n)).size ≤ 7 := by rw [strOfNums_size]; exact varL_le n
theorem piece_size (s : ByteArray) : (pieceS s).size ≤ s.size + 7 := by
  unfold pieceS
  rw [ByteArray.size_append]
  have := var_size (s.size : Int)
  omega
theorem head_size (len : Nat) : (headF len).size ≤ 8 := by
  unfold headF
  rw [ByteArray.size_append]
  have := var_size (len : Int)
  show 1 + _ ≤ 8
  omega
theorem files_small {len : Nat} {Pt Tx : Nat → ByteArray} (h : filesB len Pt Tx = true) : len ≤ 8 ∧ ∀ j, j < len → (Pt j).size ≤ 40 ∧ (Tx j).size ≤ 1500 := by
  obtain ⟨h1, h2⟩ := filesB_iff.1 h
  refine ⟨h1, fun j hj => ?_⟩
  have h3 := (h2 j hj).1
  unfold fileB fpB at h3
  simp only [Bool.and_eq_true, decide_eq_true_eq] at h3
  have := (pathB_iff.1 h3.1.1.1).2.1
  omega
theorem showTo_size {len : Nat} {Pt Tx : Nat → ByteArray} (h : filesB len Pt Tx = true) (hd : ByteArray) : ∀ k, k ≤ len → (showTo hd Pt Tx k).size ≤ hd.size + 1554 * k := by
  intro k
  induction k with
  | zero => intro _; exact Nat.le_refl _
  | succ k ih =>
    intro hk
    have h1 := ih (by omega)
    have h2 := (files_small h).2 k (by omega)
    have h3 := piece_size (Pt k)
    have h4 := piece_size (Tx k)
    rw [showTo, ByteArray.size_append, ByteArray.size_append]
    omega
end Go.Proofs.Ytdbpknmoacjodaa
namespace Go.Proofs.Ytdbpknmoacjodaa
open Go.RowKit Go.PlainAid

abbrev Fl := ByteArray × ByteArray
def flL (x : Fl) : List Value := [.string x.1, .string x.2]
def flNo : Fl := ({ data := #[] }, { data := #[] })
def ptOf (fs : List Fl) (j : Nat) : ByteArray := (fs.getD j flNo).1
def txOf (fs : List Fl) (j : Nat) : ByteArray := (fs.getD j flNo).2
def flsOf (len : Nat) (Pt Tx : Nat → ByteArray) : List Fl := (List.range len).map fun j => (Pt j, Tx j)
theorem flsOf_len (len : Nat) (Pt Tx : Nat → ByteArray) : (flsOf len Pt Tx).length = len := by simp [flsOf]
theorem flsOf_at {len : Nat} {Pt Tx : Nat → ByteArray} {j : Nat} (h : j < len) : (flsOf len Pt Tx)[j]? = some (Pt j, Tx j) := by
  unfold flsOf
  rw [List.getElem?_map, List.getElem?_range h]
  rfl
theorem fl_flat (fs : List Fl) : ∀ (j i : Nat) (x : Fl), i < 2 → fs[j]? = some x → (fs.flatMap flL)[j * 2 + i]? = (flL x)[i]? := by
  induction fs with
  | nil => intro j i x _ h; cases h
  | cons u fs ih =>
    intro j i x hi h
    rw [List.flatMap_cons]
    cases j with
    | zero =>
      cases h
      rw [Nat.zero_mul, Nat.zero_add, List.getElem?_append_left (by show i < 2; exact hi)]
    | succ j =>
      rw [List.getElem?_append_right (by show 2 ≤ _; omega), show (j + 1) * 2 + i - (flL u).length = j * 2 + i from by show (j + 1) * 2 + i - 2 = _; omega]
      exact ih j i x hi h
theorem fl_flat_len (fs : List Fl) : (fs.flatMap flL).length = fs.length * 2 := by
  induction fs with
  | nil => rfl
  | cons u fs ih => rw [List.flatMap_cons, List.length_append, ih, List.length_cons]; show 2 + _ = _; omega
def OwnFl (w : World) (base : Nat) (e : TypeId) (g n cap : Nat) (fs : List Fl) : Prop := w.ownsRow base e 2 (.slice (some ⟨g, 0, none⟩) n cap) n (fs.flatMap flL) ∧ n = fs.length
theorem ownFl_blk {w : World} {base g n cap : Nat} {e : TypeId} {fs : List Fl} (h : OwnFl w base e g n cap fs) : base ≤ g ∧ g < w.heap.size := by
  rcases h.1.2 with ⟨h', _⟩ | ⟨g', cap', cur, h', hb, hg, _⟩
  · simp at h'
  · simp only [Value.slice.injEq, Option.some.injEq, Addr.mk.injEq, and_true, true_and] at h'
    obtain ⟨rfl, rfl⟩ := h'
    exact ⟨hb, (Array.getElem?_eq_some_iff.1 hg).1⟩
theorem ownFl_cap {w : World} {base g n cap : Nat} {e : TypeId} {fs : List Fl} (h : OwnFl w base e g n cap fs) : n ≤ cap := by
  rcases h.1.2 with ⟨h', _⟩ | ⟨g', cap', cur, h', _, _, hc, _⟩
  · simp at h'
  · simp only [Value.slice.injEq, Option.some.injEq, Addr.mk.injEq, and_true, true_and] at h'
    obtain ⟨_, rfl⟩ := h'
    exact hc
theorem ownFl_keep {w W : World} {base g n cap : Nat} {e : TypeId} {fs : List Fl} (h : OwnFl w base e g n cap fs) (hk : W.heap[g]? = w.heap[g]?) : OwnFl W base e g n cap fs := by
  refine ⟨⟨h.1.1, ?_⟩, h.2⟩
  rcases h.1.2 with ⟨h', _⟩ | ⟨g', cap', cur, h', hbs, hg, hr⟩
  · simp at h'
  · simp only [Value.slice.injEq, Option.some.injEq, Addr.mk.injEq, and_true, true_and] at h'
    obtain ⟨rfl, rfl⟩ := h'
    exact .inr ⟨g, cap, cur, rfl, hbs, hk.trans hg, hr⟩
theorem ownFl_later {w W : World} {base g n cap : Nat} {e : TypeId} {fs : List Fl} (h : OwnFl w base e g n cap fs) (hb : Below w.heap.size w W) : OwnFl W base e g n cap fs := ownFl_keep h (hb.block g (ownFl_blk h).2)
theorem ownFl_low {w : World} {base b g n cap : Nat} {e : TypeId} {fs : List Fl} (h : OwnFl w base e g n cap fs) (hb : b ≤ base) : OwnFl w b e g n cap fs := by
  refine ⟨⟨h.1.1, ?_⟩, h.2⟩
  rcases h.1.2 with ⟨h', _⟩ | ⟨g', cap', cur, h', hbs, hg, hr⟩
  · simp at h'
  · exact .inr ⟨g', cap', cur, h', Nat.le_trans hb hbs, hg, hr⟩
theorem ownFl_nil (w : World) (e : TypeId) : OwnFl (w.alloc (.cells #[] e)) w.heap.size e w.heap.size 0 0 [] := ⟨World.ownsRow_lit w #[] 0 (Nat.le_refl _) (by unfold maxLen; omega) rfl, rfl⟩
theorem ownFl_files {w : World} {base g n cap : Nat} {e : TypeId} {fs : List Fl} (h : OwnFl w base e g n cap fs) : FilesAt w (some ⟨g, 0, none⟩) g 0 n (ptOf fs) (txOf fs) := by
  have hl := h.2
  have at' : ∀ j, j < n → fs[j]? = some (fs.getD j flNo) := fun j hj => by simp [List.getD, List.getElem?_eq_getElem (show j < fs.length by omega)]
  refine ⟨fun _ => rfl, fun _ => (ownFl_blk h).2, fun j hj => ?_, fun j hj => ?_⟩
  · rw [Nat.zero_add, h.1.cellAt _ (by omega)]
    exact fl_flat fs j 0 _ (by omega) (at' j hj)
  · rw [Nat.zero_add, h.1.cellAt _ (by omega)]
    exact fl_flat fs j 1 _ (by omega) (at' j hj)
theorem app_file {P : Program} (w : World) {ops : Array Oper} {rest : List Oper} {o : Oper} {a : Act} {Q : Exit → Act → World → Prop} (hgd : o.guard = none) (s x : Operand) (t : TypeId)
    (ho : o.op = .call { callee := .builtin .append, args := #[s, x], argTypes := #[t, t] })
    (base : Nat) (e : TypeId) (i : TypeInfo) (z : Value) (ht : P.underlying t = some (.slice e)) (hi : P.info? e = some i) (hz : i.zero = some z) (hsize : i.size = 2) (hby : i.bytes = 32) (hzs : z.cells.size = 2)
    (g n cap : Nat) (fs : List Fl) (hs : a.eval s = .slice (some ⟨g, 0, none⟩) n cap) (hown : OwnFl w base e g n cap fs)
    (b : Fl) (hx : a.eval x = .slice (some ⟨w.heap.size, 0, none⟩) 1 1) (hn : n + 1 ≤ 1000000)
    (h : ∀ g' cap' w', OwnFl w' base e g' (n + 1) cap' (fs ++ [b]) → w.grownBy w' (some g) → (g' = g ∨ w.heap.size < g') → wpList P ops Q rest (a.put o.dst (.slice (some ⟨g', 0, none⟩) (n + 1) cap')) w') :
    wpList P ops Q (o :: rest) a (w.alloc (.cells #[.string b.1, .string b.2] e)) := by
  obtain ⟨hb0, hb1⟩ := ownFl_blk hown
  refine wpList_append_own_at _ hgd s x t ho base e i z 2 32 ht hi hz hsize hby hzs (by decide) _ n _ hs (hown.1.alloc _) ⟨w.heap.size, 0, none⟩ 1 1 (flL b) hx rfl ?_ ?_ ?_ ?_ ?_ ?_
  · intro j u hj
    match j, hj with
    | 0, hj => cases hj; simp [Addr.add]
    | 1, hj => cases hj; simp [Addr.add]
  · intro u hu
    simp [flL] at hu
    rcases hu with rfl | rfl <;> rfl
  · unfold maxLen; omega
  · omega
  · simp; omega
  · intro v' w' k1 k2 k3 k4
    rcases k1.2 with ⟨hv, hn0⟩ | ⟨g', cap', cur, rfl, hrest⟩
    · omega
    · refine h g' cap' w' ⟨by rw [List.flatMap_append]; simpa using k1, by rw [List.length_append]; have := hown.2; simp; omega⟩ ?_ ?_
      · have k2' : (w.alloc (.cells #[.string b.1, .string b.2] e)).grownBy w' (some g) := k2
        have hsz : (w.alloc (.cells #[.string b.1, .string b.2] e)).heap.size = w.heap.size + 1 := by show (w.heap.push _).size = _; simp
        exact ⟨k2'.os, k2'.tape, k2'.output, by have := k2'.size; omega, fun k hk hne => (k2'.block k (by omega) hne).trans (heap_alloc_old w _ hk)⟩
      · have k4' : some g' = some g ∨ some g' = some (w.alloc (.cells #[.string b.1, .string b.2] e)).heap.size := k4
        rcases k4' with k | k
        · exact .inl (Option.some.inj k)
        · right
          have := Option.some.inj k
          rw [this]
          show w.heap.size < (w.heap.push _).size
          simp
theorem files_congr {len : Nat} {Pt Tx Pt' Tx' : Nat → ByteArray} (h : ∀ j, j < len → Pt j = Pt' j ∧ Tx j = Tx' j) : filesB len Pt Tx = filesB len Pt' Tx' := by
  have one : ∀ {Pt Tx Pt' Tx' : Nat → ByteArray}, (∀ j, j < len → Pt j = Pt' j ∧ Tx j = Tx' j) → FilesP len Pt Tx → FilesP len Pt' Tx' := fun h k => ⟨k.1, fun j hj => by
    have h1 := k.2 j hj
    rw [← (h j hj).1, ← (h j hj).2]
    refine ⟨h1.1, fun h0 => ?_⟩
    rw [← (h (j - 1) (by omega)).1]
    exact h1.2 h0⟩
  cases hf : filesB len Pt Tx with
  | true => exact (filesB_yes (one h (filesB_iff.1 hf))).symm
  | false =>
    refine (filesB_no fun k => ?_).symm
    have := filesB_yes (one (fun j hj => ⟨(h j hj).1.symm, (h j hj).2.symm⟩) k)
    rw [hf] at this
    cases this
end Go.Proofs.Ytdbpknmoacjodaa
namespace Go.Proofs.Ytdbpknmoacjodaa
open Go.RowKit Go.PlainAid

def hexd (k : Nat) : Int := bt { data := #[48, 49, 50, 51, 52, 53, 54, 55, 56, 57, 97, 98, 99, 100, 101, 102] } k
theorem hex_get : ∀ (n : Nat) (h : n < ({ data := #[48, 49, 50, 51, 52, 53, 54, 55, 56, 57, 97, 98, 99, 100, 101, 102] } : ByteArray).size), (((({ data := #[48, 49, 50, 51, 52, 53, 54, 55, 56, 57, 97, 98, 99, 100, 101, 102] } : ByteArray)[n]'h).toNat : Nat) : Int) = hexd n := get_bt _
theorem hexd_bd (k : Nat) : 0 ≤ hexd k ∧ hexd k ≤ 255 := ⟨bt_nonneg _ _, bt_le _ _⟩
theorem hexd_is (k : Nat) (h : k ≤ 15) : hexd k = if k < 10 then (48 + k : Int) else 87 + k := by
  match k, h with
  | 0, _ => decide
  | 1, _ => decide
  | 2, _ => decide
  | 3, _ => decide
  | 4, _ => decide
  | 5, _ => decide
  | 6, _ => decide
  | 7, _ => decide
  | 8, _ => decide
  | 9, _ => decide
  | 10, _ => decide
  | 11, _ => decide
  | 12, _ => decide
  | 13, _ => decide
  | 14, _ => decide
  | 15, _ => decide

def hexL (s : ByteArray) : Nat → List Int
  | 0 => []
  | k + 1 => hexL s k ++ [hexd (bt s k / 16).toNat, hexd (bt s k % 16).toNat]
theorem hexL_length (s : ByteArray) (k : Nat) : (hexL s k).length = 2 * k := by
  induction k with
  | zero => rfl
  | succ k ih => simp [hexL, ih]; omega
theorem hexL_hi (s : ByteArray) (n k : Nat) (h : k < n) : (hexL s n)[2 * k]? = some (hexd (bt s k / 16).toNat) := by
  induction n with
  | zero => omega
  | succ n ih =>
    rw [hexL]
    by_cases e : k = n
    · subst e
      rw [List.getElem?_append_right (by rw [hexL_length]; exact Nat.le_refl _), hexL_length, Nat.sub_self]
      rfl
    · rw [List.getElem?_append_left (by rw [hexL_length]; omega)]
      exact ih (by omega)
theorem hexL_lo (s : ByteArray) (n k : Nat) (h : k < n) : (hexL s n)[2 * k + 1]? = some (hexd (bt s k % 16).toNat) := by
  induction n with
  | zero => omega
  | succ n ih =>
    rw [hexL]
    by_cases e : k = n
    · subst e
      rw [List.getElem?_append_right (by rw [hexL_length]; omega), hexL_length, show 2 * k + 1 - 2 * k = 1 from by omega]
      rfl
    · rw [List.getElem?_append_left (by rw [hexL_length]; omega)]
      exact ih (by omega)
theorem own_two {w : World} {B g m : Nat} {e : TypeId} {s : ByteArray} {k : Nat} (h : OwnB w B e (.slice (some ⟨g, 0, none⟩) m m) m (fillTo (hexL s s.size) (2 * k))) (hk : k < s.size) :
    OwnB ((w.setCell ⟨g, 2 * k, none⟩ (.int .u8 (hexd (bt s k / 16).toNat))).setCell ⟨g, 2 * k + 1, none⟩ (.int .u8 (hexd (bt s k % 16).toNat))) B e (.slice (some ⟨g, 0, none⟩) m m) m (fillTo (hexL s s.size) (2 * (k + 1))) := by
  have h1 := own_set h (2 * k) (hexd (bt s k / 16).toNat)
  rw [fillTo_set _ _ _ (by rw [hexL_length]; omega) (hexL_hi s s.size k hk)] at h1
  have h2 := own_set h1 (2 * k + 1) (hexd (bt s k % 16).toNat)
  rw [fillTo_set _ _ _ (by rw [hexL_length]; omega) (hexL_lo s s.size k hk)] at h2
  exact h2
end Go.Proofs.Ytdbpknmoacjodaa
namespace Go.Proofs.Ytdbpknmoacjodaa
open Go.RowKit Go.PlainAid

theorem ownS_blk {w : World} {base g n cap : Nat} {e : TypeId} {xs : List ByteArray} (h : OwnS w base e g n cap xs) : base ≤ g ∧ g < w.heap.size := by
  rcases h.1.2 with ⟨h', _⟩ | ⟨g', cap', cur, h', hb, hg, _⟩
  · simp at h'
  · simp only [Value.slice.injEq, Option.some.injEq, Addr.mk.injEq, and_true, true_and] at h'
    obtain ⟨rfl, rfl⟩ := h'
    exact ⟨hb, (Array.getElem?_eq_some_iff.1 hg).1⟩
theorem ownS_keep {w W : World} {base g n cap : Nat} {e : TypeId} {xs : List ByteArray} (h : OwnS w base e g n cap xs) (hk : W.heap[g]? = w.heap[g]?) : OwnS W base e g n cap xs := by
  refine ⟨⟨h.1.1, ?_⟩, h.2⟩
  rcases h.1.2 with ⟨h', _⟩ | ⟨g', cap', cur, h', hbs, hg, hr⟩
  · simp at h'
  · simp only [Value.slice.injEq, Option.some.injEq, Addr.mk.injEq, and_true, true_and] at h'
    obtain ⟨rfl, rfl⟩ := h'
    exact .inr ⟨g, cap, cur, rfl, hbs, hk.trans hg, hr⟩
theorem ownS_low {w : World} {base b g n cap : Nat} {e : TypeId} {xs : List ByteArray} (h : OwnS w base e g n cap xs) (hb : b ≤ base) : OwnS w b e g n cap xs := by
  refine ⟨⟨h.1.1, ?_⟩, h.2⟩
  rcases h.1.2 with ⟨h', _⟩ | ⟨g', cap', cur, h', hbs, hg, hr⟩
  · simp at h'
  · exact .inr ⟨g', cap', cur, h', Nat.le_trans hb hbs, hg, hr⟩
theorem app_strG {P : Program} (w : World) {ops : Array Oper} {rest : List Oper} {o : Oper} {a : Act} {Q : Exit → Act → World → Prop} (hgd : o.guard = none) (s x : Operand) (t : TypeId)
    (ho : o.op = .call { callee := .builtin .append, args := #[s, x], argTypes := #[t, t] })
    (base : Nat) (e : TypeId) (i : TypeInfo) (z : Value) (ht : P.underlying t = some (.slice e)) (hi : P.info? e = some i) (hz : i.zero = some z) (hsize : i.size = 1) (hby : i.bytes = 16) (hzs : z.cells.size = 1)
    (g n cap : Nat) (xs : List ByteArray) (hs : a.eval s = .slice (some ⟨g, 0, none⟩) n cap) (hown : OwnS w base e g n cap xs)
    (b : ByteArray) (hx : a.eval x = .slice (some ⟨w.heap.size, 0, none⟩) 1 1) (hn : n + 1 ≤ 100000000)
    (h : ∀ g' cap' w', OwnS w' base e g' (n + 1) cap' (xs ++ [b]) → w.grownBy w' (some g) → (g' = g ∨ w.heap.size < g') → wpList P ops Q rest (a.put o.dst (.slice (some ⟨g', 0, none⟩) (n + 1) cap')) w') :
    wpList P ops Q (o :: rest) a (w.alloc (.cells #[.string b] e)) := by
  obtain ⟨hb0, hb1⟩ := ownS_blk hown
  refine wpList_append_own_at _ hgd s x t ho base e i z 1 16 ht hi hz hsize hby hzs (by decide) _ n _ hs (hown.1.alloc _) ⟨w.heap.size, 0, none⟩ 1 1 [.string b] hx rfl ?_ ?_ ?_ ?_ ?_ ?_
  · intro j u hj
    match j, hj with
    | 0, hj =>
      simp at hj
      subst hj
      simp [Addr.add]
  · intro u hu
    simp at hu
    subst hu
    rfl
  · unfold maxLen; omega
  · omega
  · simp; omega
  · intro v' w' k1 k2 k3 k4
    rcases k1.2 with ⟨hv, hn0⟩ | ⟨g', cap', cur, rfl, hrest⟩
    · omega
    · refine h g' cap' w' ⟨by rw [List.map_append]; exact k1, by rw [List.length_append]; have := hown.2; simp; omega⟩ ?_ ?_
      · have k2' : (w.alloc (.cells #[.string b] e)).grownBy w' (some g) := k2
        have hsz : (w.alloc (.cells #[.string b] e)).heap.size = w.heap.size + 1 := by show (w.heap.push _).size = _; simp
        exact ⟨k2'.os, k2'.tape, k2'.output, by have := k2'.size; omega, fun k hk hne => (k2'.block k (by omega) hne).trans (heap_alloc_old w _ hk)⟩
      · have k4' : some g' = some g ∨ some g' = some (w.alloc (.cells #[.string b] e)).heap.size := k4
        rcases k4' with k | k
        · exact .inl (Option.some.inj k)
        · right
          have := Option.some.inj k
          rw [this]
          show w.heap.size < (w.heap.push _).size
          simp
def inT (l : List ByteArray) (s : ByteArray) : Bool := l.any fun y => y.toList == s.toList
theorem inT_yes {l : List ByteArray} {s : ByteArray} {j : Nat} {x : ByteArray} (hx : l[j]? = some x) (h : (x.toList == s.toList) = true) : inT l s = true := List.any_eq_true.2 ⟨x, List.mem_of_getElem? hx, h⟩
theorem inT_no {l : List ByteArray} {s : ByteArray} (h : ∀ (j : Nat) (x : ByteArray), l[j]? = some x → (x.toList == s.toList) = false) : inT l s = false := by
  unfold inT
  rw [List.any_eq_false]
  intro x hx
  obtain ⟨j, hj, rfl⟩ := List.getElem_of_mem hx
  rw [h j _ (List.getElem?_eq_getElem hj)]
  decide
end Go.Proofs.Ytdbpknmoacjodaa
namespace Go.Proofs.Ytdbpknmoacjodaa
open Go.RowKit Go.PlainAid

abbrev sNone : ByteArray := { data := #[] }
theorem alloc_size (w : World) (o : Obj) : (w.alloc o).heap.size = w.heap.size + 1 := by show (w.heap.push _).size = _; simp
theorem hidI {p : Prop} (h : p) : Hid p := h
theorem take_snoc {α : Type} {l : List α} {j : Nat} {x : α} (h : l[j]? = some x) : l.take (j + 1) = l.take j ++ [x] := by
  rw [List.take_add_one, h]
  rfl
end Go.Proofs.Ytdbpknmoacjodaa
namespace Go.Proofs.Ytdbpknmoacjodaa
open Go.RowKit Go.PlainAid

def lessT (s x : ByteArray) : Bool := Op.bytesLess s.toList x.toList
def insT (s : ByteArray) : List ByteArray → List ByteArray
  | [] => [s]
  | x :: l => if lessT s x then s :: x :: l else x :: insT s l
def putT (l : List ByteArray) (s : ByteArray) : List ByteArray := if inT l s then l else insT s l
theorem insT_none {s : ByteArray} (l : List ByteArray) (h : ∀ x ∈ l, lessT s x = false) : insT s l = l ++ [s] := by
  induction l with
  | nil => rfl
  | cons x l ih => rw [insT, h x (by simp), ih fun y hy => h y (by simp [hy])]; rfl
theorem insT_more {s y : ByteArray} (l : List ByteArray) (h : ∃ x ∈ l, lessT s x = true) : insT s (l ++ [y]) = insT s l ++ [y] := by
  induction l with
  | nil => obtain ⟨x, hx, _⟩ := h; cases hx
  | cons x l ih =>
    rw [List.cons_append, insT, insT]
    split
    · rfl
    · next hn =>
      rw [ih, List.cons_append]
      obtain ⟨z, hz, hl⟩ := h
      rcases List.mem_cons.1 hz with rfl | hz
      · exact absurd hl hn
      · exact ⟨z, hz, hl⟩
theorem insT_here {s y : ByteArray} (l : List ByteArray) (h : ∀ x ∈ l, lessT s x = false) (hy : lessT s y = true) : insT s (l ++ [y]) = l ++ [s] ++ [y] := by
  induction l with
  | nil => rw [List.nil_append, insT, if_pos hy]; rfl
  | cons x l ih => rw [List.cons_append, insT, h x (by simp), ih fun z hz => h z (by simp [hz])]; rfl
theorem insT_len (s : ByteArray) (l : List ByteArray) : (insT s l).length = l.length + 1 := by
  induction l with
  | nil => rfl
  | cons x l ih =>
    rw [insT]
    split
    · simp
    · rw [List.length_cons, ih, List.length_cons]
theorem putT_len (l : List ByteArray) (s : ByteArray) : (putT l s).length ≤ l.length + 1 := by
  unfold putT
  split
  · omega
  · rw [insT_len]; exact Nat.le_refl _
def underT (s : ByteArray) (b : Bool) (l : List ByteArray) : List ByteArray := if b then insT s l else l
def PutAt (s : ByteArray) (b : Bool) (l : List ByteArray) : Prop := if b then ∃ x ∈ l, lessT s x = true else ∀ x ∈ l, lessT s x = false
theorem put_was {s y : ByteArray} {l : List ByteArray} (h : PutAt s true l) : underT s true (l ++ [y]) = underT s true l ++ [y] ∧ PutAt s true (l ++ [y]) := by
  obtain ⟨x, hx, hl⟩ := h
  exact ⟨insT_more l ⟨x, hx, hl⟩, x, List.mem_append_left _ hx, hl⟩
theorem put_now {s y : ByteArray} {l : List ByteArray} (h : PutAt s false l) (hy : lessT s y = true) : underT s true (l ++ [y]) = underT s false l ++ [s] ++ [y] ∧ PutAt s true (l ++ [y]) := ⟨insT_here l h hy, y, by simp, hy⟩
theorem put_not {s y : ByteArray} {l : List ByteArray} (h : PutAt s false l) (hy : lessT s y = false) : underT s false (l ++ [y]) = underT s false l ++ [y] ∧ PutAt s false (l ++ [y]) := by
  refine ⟨rfl, fun x hx => ?_⟩
  rcases List.mem_append.1 hx with hx | hx
  · exact h x hx
  · rw [List.mem_singleton] at hx
    rw [hx]
    exact hy
theorem put_end {s : ByteArray} {l : List ByteArray} (h : PutAt s false l) : insT s l = underT s false l ++ [s] := insT_none l h
end Go.Proofs.Ytdbpknmoacjodaa
namespace Go.Proofs.Ytdbpknmoacjodaa
open Go.RowKit Go.PlainAid Go.Deep

def RowAt {α : Type} (w : World) (a : Option Addr) (f : α → List Value) (m : Nat) (l : List α) : Prop :=
  l = [] ∨ ∃ b off, a = some ⟨b, off, none⟩ ∧ b < w.heap.size ∧ ∀ j x, l[j]? = some x → ∀ i v, (f x)[i]? = some v → w.cell? ⟨b, off + j * m + i, none⟩ = some v
theorem RowAt.later {α : Type} {w w' : World} {a : Option Addr} {f : α → List Value} {m : Nat} {l : List α} (h : RowAt w a f m l) (hb : Below w.heap.size w w') : RowAt w' a f m l := by
  rcases h with h | ⟨b, off, ha, hlt, hc⟩
  · exact .inl h
  · exact .inr ⟨b, off, ha, Nat.lt_of_lt_of_le hlt hb.size, fun j x hx i v hv => by rw [hb.cell hlt]; exact hc j x hx i v hv⟩
theorem RowAt.get {α : Type} {w : World} {a : Option Addr} {f : α → List Value} {m : Nat} {l : List α} (h : RowAt w a f m l) {j : Nat} {x : α} (hj : l[j]? = some x) : ∃ b off, a = some ⟨b, off, none⟩ ∧ ∀ i v, (f x)[i]? = some v → w.cell? ⟨b, off + j * m + i, none⟩ = some v := by
  rcases h with h | ⟨b, off, ha, hlt, hc⟩
  · rw [h] at hj
    cases hj
  · exact ⟨b, off, ha, hc j x hj⟩
theorem flat_at {α : Type} {f : α → List Value} {m : Nat} (hf : ∀ x, (f x).length = m) (l : List α) : ∀ (k : Nat) (x : α) (i : Nat) (v : Value), l[k]? = some x → (f x)[i]? = some v → (l.flatMap f)[k * m + i]? = some v := by
  induction l with
  | nil => intro k x i v h; cases h
  | cons y l ih =>
    intro k x i v h hv
    rw [List.flatMap_cons]
    cases k with
    | zero =>
      cases h
      rw [Nat.zero_mul, Nat.zero_add, List.getElem?_append_left (by rw [List.getElem?_eq_some_iff] at hv; exact hv.1)]
      exact hv
    | succ k =>
      rw [List.getElem?_append_right (by rw [hf, Nat.succ_mul]; omega), hf, show (k + 1) * m + i - m = k * m + i by rw [Nat.succ_mul]; omega]
      exact ih k x i v h hv
def SzOut (left : Int) (c : Nat) (e : Ending) : Prop := ∃ z : Int, e = .returned (.int .i64 z) ∧ -1 ≤ z ∧ z ≤ left ∧ (0 ≤ z → z + (c : Int) = left)
theorem add_in {w : World} {y : Addr} {v : Value} (h : w.cell? (y.add 0) = some v) : y = ⟨y.block, y.off, none⟩ ∧ y.block < w.heap.size := by
  have e0 : y.add 0 = y := by unfold Addr.add; simp
  rw [e0] at h
  obtain ⟨b, off, spot⟩ := y
  have hs : spot = none := by simpa using World.cell?_spot h
  subst hs
  refine ⟨rfl, ?_⟩
  show b < _
  rcases Nat.lt_or_ge b w.heap.size with k1 | k1
  · exact k1
  · have e2 : w.heap[b]? = none := Array.getElem?_eq_none k1
    simp [World.cell?, e2] at h
theorem add_at {y : Addr} (h : y = ⟨y.block, y.off, none⟩) (k : Nat) : y.add k = ⟨y.block, y.off + k, none⟩ := by
  obtain ⟨b, off, spot⟩ := y
  simp only [Addr.mk.injEq, true_and] at h
  subst h
  unfold Addr.add
  split
  · rename_i hk
    rw [hk, Nat.add_zero]
  · rfl
theorem row_open {H : Type} {enc : TypeId × Value → H} {P : Program} {w : World} {base fuel : Nat} {spare : Nat → Bool} {held : Bool} {α : Type} (x0 : α) {f : α → List Value} {m : Nat} (hm0 : 0 < m) (hf : ∀ x, (f x).length = m) {Q : α → Prop} {t e : TypeId} {v : Value} {z : DataW H × List MemPlace}
    (ht : P.underlying t = some (.slice e)) (ce : P.cellsOf e = m) (hd : ∀ n cs y, DataW.trod enc P w base spare held n e cs = some y → cs.length = m → ∃ x, cs = f x ∧ Q x)
    (h : DataW.trod enc P w base spare held fuel t [v] = some z) : ∃ (a : Option Addr) (cap : Nat) (l : List α), v = .slice a l.length cap ∧ l.length ≤ maxLen ∧ RowAt w a f m l ∧ ∀ x ∈ l, Q x := by
  haveI : Inhabited α := ⟨x0⟩
  rcases open_slice ht h with ⟨h0, _⟩ | ⟨a, len, cap, mm, n, D, Pl, h0, hb, hl, hm, hmm, _, hx⟩
  · simp only [List.cons.injEq, and_true] at h0
    exact ⟨none, 0, [], h0, Nat.zero_le _, .inl rfl, fun x hx => by cases hx⟩
  · simp only [List.cons.injEq, and_true] at h0
    have hlm : len ≤ mm := by rw [hmm]; split <;> omega
    have each : ∀ i, i < len → ∃ x : α, Q x ∧ ∀ j v, (f x)[j]? = some v → w.cell? (a.add (i * m + j)) = some v := by
      intro i hi
      obtain ⟨cs', h1, h2⟩ := hx i (by omega)
      rw [ce] at h1
      obtain ⟨_, hlen, hcell⟩ := World.cells?_some h1
      obtain ⟨x, rfl, hq⟩ := hd _ _ _ h2 hlen
      refine ⟨x, hq, fun j v hv => ?_⟩
      have hj : j < m := by have := (List.getElem?_eq_some_iff.1 hv).1; rw [hf] at this; exact this
      have := hcell j (by omega)
      rw [add_add] at this
      rw [this]
      exact hv
    obtain ⟨g, hg⟩ := choose_lt each
    have hlen : ((List.range len).map g).length = len := by simp
    refine ⟨some a, cap, (List.range len).map g, by rw [hlen]; exact h0, by rw [hlen]; omega, ?_, ?_⟩
    · by_cases hz : len = 0
      · exact .inl (by rw [hz]; rfl)
      · have hc0 : ∃ v0, w.cell? (a.add 0) = some v0 := by
          have := (hg 0 (by omega)).2 0 ((f (g 0))[0]'(by rw [hf]; exact hm0)) (List.getElem?_eq_getElem _)
          rw [Nat.zero_mul] at this
          exact ⟨_, this⟩
        obtain ⟨v0, hc0⟩ := hc0
        have ha := add_in hc0
        refine .inr ⟨a.block, a.off, by rw [← ha.1], ha.2, fun j x hj i v hv => ?_⟩
        have hj2 : j < len := by have := (List.getElem?_eq_some_iff.1 hj).1; rw [hlen] at this; exact this
        rw [List.getElem?_map, List.getElem?_range hj2] at hj
        cases hj
        have hc := (hg j hj2).2 i v hv
        rw [add_at ha.1] at hc
        rw [Nat.add_assoc]
        exact hc
    · intro x hx
      obtain ⟨i, hi, rfl⟩ := List.mem_map.1 hx
      exact (hg i (List.mem_range.1 hi)).1
end Go.Proofs.Ytdbpknmoacjodaa
