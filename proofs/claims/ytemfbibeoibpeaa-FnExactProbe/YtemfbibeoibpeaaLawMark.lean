/-
  What markText of the laws answers: the walk.
-/
import Derived.Test.YtemfbibeoibpeaaTokMem
import Derived.Test.YtemfbibeoibpeaaProg
import Derived.WalkLawsBesides
import Derived.Lib.QuietBelow
import Derived.BigQuiet
namespace Go.Proofs.Ytemfbibeoibpeaa
open Go.RowKit Go.PlainAid Go.Sort

def mdig : Nat → Nat → ByteArray → ByteArray
  | 0, _, o => o
  | f + 1, k, o => if k = 0 then o else mdig f (k / 10) (strOfNums [48 + (k : Int) % 10] ++ o)
def mtS (k : Nat) : ByteArray := { data := #[109] } ++ mdig k k { data := #[] }
theorem mdig_zero (f : Nat) (o : ByteArray) : mdig f 0 o = o := by cases f <;> rfl
theorem mdig_step {f k : Nat} {o : ByteArray} (h : k ≤ f) (hk : 0 < k) : ∃ f', k / 10 ≤ f' ∧ mdig f k o = mdig f' (k / 10) (strOfNums [48 + (k : Int) % 10] ++ o) := by
  match f, h with
  | 0, h => omega
  | f + 1, h => exact ⟨f, by omega, by rw [mdig, if_neg (by omega)]⟩
set_option maxHeartbeats 1600000 in
theorem markText_far (k0 : Nat) (w : World) (_ : 0 < k0) (h1 : k0 ≤ 8000000) :
    Calls Try.prog 41 #[.int .i64 k0] w fun e w' => e = .returned (.string (mtS k0)) ∧ Below w.heap.size w w' := by
  go_enter Try.func41, Try.ntmps41
  go_wp2
  go_loopw [0, 3] (fun i o wr => ∃ (k f m : Nat) (x : ByteArray), i = .int .i64 k ∧ o = .string x ∧ k ≤ f ∧ k ≤ 8000000 ∧ mdig f k x = mdig k0 k0 { data := #[] } ∧ x.size ≤ m ∧ k + m ≤ 8000000 ∧ Below w.heap.size w wr) (fun i _ _ => (intOf i).toNat)
  case atStart => exact ⟨k0, k0, 0, _, rfl, rfl, Nat.le_refl _, h1, rfl, Nat.le_refl _, by omega, Below.refl _ _⟩
  case round =>
    obtain ⟨k, f, m, x, rfl, rfl, hkf, hk1, hd, hx, hxm, hb⟩ := hrel
    have HD : Hid (mdig f k x = mdig k0 k0 { data := #[] }) := hd
    clear hd
    by_cases hk : 0 < k
    · obtain ⟨f', hf', hst⟩ := mdig_step (o := x) hkf hk
      have HN : Hid (mdig f' (k / 10) (strOfNums [48 + (k : Int) % 10] ++ x) = mdig k0 k0 { data := #[] }) := hst.symm.trans HD.out
      have hst := fun (w : World) (x : Int) => run_string_one (P := Try.prog) (src := 22) (dst := 9) Try.underlying22 Try.underlying5 Try.underlying9 w x
      have hone := fun x => strOfNums_size [x]
      have hdv : k / 10 + 1 ≤ k := by omega
      go_wp2
      go_roundw
      case rel => exact ⟨k / 10, f', m + 1, _, by go_num, rfl, hf', by omega, HN.out, by rw [ByteArray.size_append, hone]; simp; omega, by omega, hb.alloc hb.size _⟩
      case measure => simp [intOf]; omega
    · obtain rfl : k = 0 := by omega
      have HE : Hid (x = mdig k0 k0 { data := #[] }) := by have := HD.out; rw [mdig_zero] at this; exact this
      go_wp2
      go_ret
      exact ⟨ret_str (by rw [HE.out]; rfl), hb⟩
theorem markText_any (k0 : Nat) (w : World) (h0 : 0 < k0) (h1 : k0 ≤ 100000) :
    Calls Try.prog 41 #[.int .i64 k0] w fun e w' => e = .returned (.string (mtS k0)) ∧ Below w.heap.size w w' := markText_far k0 w h0 (by omega)
end Go.Proofs.Ytemfbibeoibpeaa
