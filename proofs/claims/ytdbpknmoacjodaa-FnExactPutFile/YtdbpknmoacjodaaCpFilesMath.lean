/-
  Reading files out of a text, putting, dropping and telling apart, as plain functions. No program is spoken of.
-/
import Derived.Test.YtdbpknmoacjodaaCpRowFile
import Derived.Test.YtdbpknmoacjodaaCpNumbersMath
import Derived.Test.YtdbpknmoacjodaaCpRowStrToPutMath
namespace Go.Proofs.Ytdbpknmoacjodaa
open Go.RowKit Go.PlainAid

def varAt1 (s : ByteArray) (a : Int) : Option (Int × Int) := if 0 ≤ a ∧ a ≤ s.size then (if (rvAns (s.extract a.toNat s.size)).2 = 0 then none else some ((rvAns (s.extract a.toNat s.size)).1, a + (rvAns (s.extract a.toNat s.size)).2)) else none
theorem varAt1_off {s : ByteArray} {a : Int} (h : ¬ (0 ≤ a ∧ a ≤ s.size)) : varAt1 s a = none := by rw [varAt1, if_neg h]
theorem varAt1_no {s : ByteArray} {a : Nat} (h : a ≤ s.size) (h0 : (rvAns (s.extract a s.size)).2 = 0) : varAt1 s a = none := by
  rw [varAt1, if_pos ⟨by omega, by omega⟩, Int.toNat_natCast, if_pos h0]
theorem varAt1_yes {s : ByteArray} {a : Nat} (h : a ≤ s.size) (h0 : (rvAns (s.extract a s.size)).2 ≠ 0) : varAt1 s a = some ((rvAns (s.extract a s.size)).1, (a : Int) + (rvAns (s.extract a s.size)).2) := by
  rw [varAt1, if_pos ⟨by omega, by omega⟩, Int.toNat_natCast, if_neg h0]
theorem rvAns_bd (s : ByteArray) : 0 ≤ (rvAns s).1 ∧ (rvAns s).1 ≤ 562949953421311 ∧ 0 ≤ (rvAns s).2 ∧ (rvAns s).2 ≤ 7 ∧ (rvAns s).2 ≤ s.size := by
  rcases rvAns_cases s with h | ⟨m, h1, h2, h3, _⟩
  · rw [h]; simp
  · rw [h3]
    have := rv_bd s (m + 1) (by omega)
    simp only
    omega
def takeS (s : ByteArray) (a : Int) : ByteArray × Int := match varAt1 s a with
  | none => ({ data := #[] }, -1)
  | some r => if (s.size : Int) - r.2 < r.1 then ({ data := #[] }, -1) else (s.extract r.2.toNat (r.2 + r.1).toNat, r.2 + r.1)
theorem varAt1_bd {s : ByteArray} {a x k : Int} (h : varAt1 s a = some (x, k)) : 0 ≤ x ∧ x ≤ 562949953421311 ∧ 0 ≤ k ∧ k ≤ s.size := by
  unfold varAt1 at h
  split at h
  · next hin =>
    split at h
    · cases h
    · have := rvAns_bd (s.extract a.toNat s.size)
      rw [ByteArray.size_extract] at this
      simp only [Option.some.injEq, Prod.mk.injEq] at h
      omega
  · cases h
def readTo (s : ByteArray) : Nat → Int → List Fl → Option (List Fl)
  | 0, _, out => some out
  | k + 1, a, out => if (takeS s (takeS s a).2).2 < 0 then none else readTo s k (takeS s (takeS s a).2).2 (out ++ [((takeS s a).1, (takeS s (takeS s a).2).1)])
def readS (s : ByteArray) : List Fl × Bool := match varAt1 s 1 with
  | none => ([], false)
  | some r => if 8 < r.1 then ([], false) else match readTo s r.1.toNat r.2 [] with
    | none => ([], false)
    | some F => if (showS F.length (ptOf F) (txOf F)).toList == s.toList then (F, true) else ([], false)
theorem readTo_len {s : ByteArray} {F : List Fl} : ∀ (n : Nat) (a : Int) (out : List Fl), readTo s n a out = some F → F.length = out.length + n := by
  intro n
  induction n with
  | zero => intro a out h; rw [readTo] at h; cases h; rfl
  | succ n ih =>
    intro a out h
    rw [readTo] at h
    split at h
    · cases h
    · have := ih _ _ h
      rw [List.length_append, List.length_singleton] at this
      omega
theorem readS_len (s : ByteArray) : (readS s).1.length ≤ 8 := by
  unfold readS
  split
  · exact Nat.zero_le _
  · split
    · exact Nat.zero_le _
    · split
      · exact Nat.zero_le _
      · rename_i F hF
        split
        · have := readTo_len _ _ _ hF
          rw [List.length_nil] at this
          show F.length ≤ 8
          omega
        · exact Nat.zero_le _
theorem takeS_bd (s : ByteArray) (a : Int) : -1 ≤ (takeS s a).2 ∧ (takeS s a).2 ≤ s.size ∧ (takeS s a).1.size ≤ s.size := by
  unfold takeS
  cases hv : varAt1 s a with
  | none => exact ⟨Int.le_refl _, by simp only; omega, Nat.zero_le _⟩
  | some r =>
    obtain ⟨x, k⟩ := r
    obtain ⟨h0, h1, h2, h3⟩ := varAt1_bd hv
    simp only
    split
    · exact ⟨Int.le_refl _, by simp only; omega, Nat.zero_le _⟩
    · refine ⟨by simp only; omega, by simp only; omega, ?_⟩
      simp only [ByteArray.size_extract]
      omega
theorem takeS_off (s : ByteArray) : takeS s (-1) = ({ data := #[] }, -1) := by
  unfold takeS
  rw [varAt1_off (by omega)]
def keepP (q : ByteArray) (x : Fl) : Bool := !(x.1.toList == q.toList)
def dropL (fs : List Fl) (q : ByteArray) : List Fl := fs.filter (keepP q)
def dropS (len : Nat) (Pt Tx : Nat → ByteArray) (q : ByteArray) : List Fl × Bool := if filesB len Pt Tx then (dropL (flsOf len Pt Tx) q, decide ((dropL (flsOf len Pt Tx) q).length < len)) else ([], false)
def putStep (x : Fl) (st : Bool × List Fl) (y : Fl) : Bool × List Fl :=
  if y.1.toList == x.1.toList then (if !st.1 && !(Op.bytesLess y.1.toList x.1.toList) then (true, st.2 ++ [x]) else st)
  else (if !st.1 && !(Op.bytesLess y.1.toList x.1.toList) then (true, st.2 ++ [x] ++ [y]) else (st.1, st.2 ++ [y]))
def putFs (fs : List Fl) (x : Fl) : List Fl := if (fs.foldl (putStep x) (false, [])).1 then (fs.foldl (putStep x) (false, [])).2 else (fs.foldl (putStep x) (false, [])).2 ++ [x]
def putS (len : Nat) (Pt Tx : Nat → ByteArray) (x : Fl) : List Fl × Bool :=
  if filesB len Pt Tx then (if filesB (putFs (flsOf len Pt Tx) x).length (ptOf (putFs (flsOf len Pt Tx) x)) (txOf (putFs (flsOf len Pt Tx) x)) then (putFs (flsOf len Pt Tx) x, true) else (flsOf len Pt Tx, false)) else ([], false)
theorem putStep_len (x : Fl) (st : Bool × List Fl) (y : Fl) : (putStep x st y).2.length ≤ st.2.length + 2 := by
  unfold putStep
  split
  · split <;> simp
  · split <;> simp
def chA (lb : Nat) (Pb Tb : Nat → ByteArray) (out : List ByteArray) (x : Fl) : List ByteArray := if !(findS lb Pb Tb x.1).2 || !((findS lb Pb Tb x.1).1.toList == x.2.toList) then putT out x.1 else out
def chB (la : Nat) (Pa Ta : Nat → ByteArray) (out : List ByteArray) (x : Fl) : List ByteArray := if !(findS la Pa Ta x.1).2 then putT out x.1 else out
def changedS (la : Nat) (Pa Ta : Nat → ByteArray) (lb : Nat) (Pb Tb : Nat → ByteArray) : List ByteArray :=
  if filesB la Pa Ta && filesB lb Pb Tb then (flsOf lb Pb Tb).foldl (chB la Pa Ta) ((flsOf la Pa Ta).foldl (chA lb Pb Tb) []) else []
end Go.Proofs.Ytdbpknmoacjodaa
