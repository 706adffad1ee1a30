/-
  Plain facts of numbers and bytes, and small facts on what a call hands back: no program is spoken of.
-/
import Derived.WalkKit
import Derived.PlainAid
namespace Go.Proofs.Ytkplighmefigcaa
open Go.RowKit Go.PlainAid

def inB (a b c : Int) : Bool := decide (b ≤ a) && decide (a ≤ c)
theorem inB_yes {a b c : Int} (h : b ≤ a) (k : a ≤ c) : inB a b c = true := by simp [inB, h, k]
theorem inB_no {a b c : Int} (h : ¬ (b ≤ a ∧ a ≤ c)) : inB a b c = false := by
  simp only [inB, Bool.and_eq_false_iff, decide_eq_false_iff_not]; omega
theorem inB_iff {a b c : Int} : inB a b c = true ↔ b ≤ a ∧ a ≤ c := by simp [inB]

theorem ret_bool {a b : Bool} (h : a = b) : Ending.returned (.bool a) = .returned (.bool b) := by rw [h]
theorem ret_int {k : IntKind} {a b : Int} (h : a = b) : Ending.returned (.int k a) = .returned (.int k b) := by rw [h]
theorem ret_str {a b : ByteArray} (h : a = b) : Ending.returned (.string a) = .returned (.string b) := by rw [h]
theorem ret_int_bool {a b : Int} {c d : Bool} (h : a = b) (k : c = d) : Ending.returned (.tuple #[.int .i64 a, .bool c]) = .returned (.tuple #[.int .i64 b, .bool d]) := by rw [h, k]
theorem ret_int_int {a b c d : Int} (h : a = b) (k : c = d) : Ending.returned (.tuple #[.int .i64 a, .int .i64 c]) = .returned (.tuple #[.int .i64 b, .int .i64 d]) := by rw [h, k]
theorem ret_str_bool {a b : ByteArray} {c d : Bool} (h : a = b) (k : c = d) : Ending.returned (.tuple #[.string a, .bool c]) = .returned (.tuple #[.string b, .bool d]) := by rw [h, k]

def rfix (s : ByteArray) : Nat → Int
  | 0 => 0
  | k + 1 => rfix s k * 256 + bt s k
theorem rfix_step (s : ByteArray) (k : Nat) (B : Int) (h : 0 ≤ rfix s k ∧ rfix s k ≤ B) : 0 ≤ rfix s (k + 1) ∧ rfix s (k + 1) ≤ B * 256 + 255 := by
  have h0 := bt_nonneg s k
  have h1 := bt_le s k
  simp only [rfix]; omega
theorem rfix_lt (s : ByteArray) (k : Nat) (h : k ≤ 6) : 0 ≤ rfix s k ∧ rfix s k ≤ 281474976710655 := by
  have e0 : 0 ≤ rfix s 0 ∧ rfix s 0 ≤ 0 := by simp [rfix]
  have e1 := rfix_step s 0 _ e0
  have e2 := rfix_step s 1 _ e1
  have e3 := rfix_step s 2 _ e2
  have e4 := rfix_step s 3 _ e3
  have e5 := rfix_step s 4 _ e4
  have e6 := rfix_step s 5 _ e5
  simp only [Nat.zero_add, Nat.reduceAdd] at e1 e2 e3 e4 e5 e6
  match k, h with
  | 0, _ => omega
  | 1, _ => omega
  | 2, _ => omega
  | 3, _ => omega
  | 4, _ => omega
  | 5, _ => omega
  | 6, _ => omega
theorem or_byte (m b : Int) (h0 : 0 ≤ m) (h1 : m ≤ 281474976710655) (h2 : 0 ≤ b) (h3 : b ≤ 255) : bits .or .i64 (m * 256) b = m * 256 + b :=
  bits_join .i64 63 (by decide) (fun n a b => by rw [IntKind.wrap_i64]; omega) 8 (m * 256) b (by omega) (by omega) (by omega) h2 (by omega) (by omega)
def rfOk (s : ByteArray) (n : Int) : Bool := inB n 1 7 && decide (n ≤ s.size)
def rfV (s : ByteArray) (n : Int) : Int := if rfOk s n then rfix s n.toNat else 0
theorem rfOk_yes {s : ByteArray} {n : Int} (h1 : 1 ≤ n) (h7 : n ≤ 7) (hl : n ≤ s.size) : rfOk s n = true := by simp [rfOk, inB_yes h1 h7, hl]
theorem rfOk_no {s : ByteArray} {n : Int} (h : ¬ (1 ≤ n ∧ n ≤ 7 ∧ n ≤ s.size)) : rfOk s n = false := by
  simp only [rfOk, Bool.and_eq_false_iff, decide_eq_false_iff_not]
  by_cases k : 1 ≤ n ∧ n ≤ 7
  · exact .inr (by omega)
  · exact .inl (inB_no k)
theorem rfV_yes {s : ByteArray} {n : Int} (h1 : 1 ≤ n) (h7 : n ≤ 7) (hl : n ≤ s.size) : rfV s n = rfix s n.toNat := by simp [rfV, rfOk_yes h1 h7 hl]
theorem rfV_no {s : ByteArray} {n : Int} (h : ¬ (1 ≤ n ∧ n ≤ 7 ∧ n ≤ s.size)) : rfV s n = 0 := by simp [rfV, rfOk_no h]
end Go.Proofs.Ytkplighmefigcaa
