/-
  What is known of a program that came in.
  Programs in boxes. No program is spoken of but for the numbers of its types.
  Programs in boxes, as the laws hold them. No program is spoken of but for the numbers of its types.
  What markText of the laws answers: the walk.
-/
import Derived.ChangeArms
import Derived.Test.YtdbpknmoacjodaaCkLawSz
namespace Go.Proofs.Ytdbpknmoacjodaa
open Go.RowKit Go.PlainAid Go.Deep

theorem wf_int {n : Int} (h : (Lit.int .i64 n).wf = true) : -9223372036854775808 ≤ n ∧ n ≤ 9223372036854775807 := bounds_i64 h
theorem list3 {α : Type} {l : List α} (h : l.length = 3) : ∃ a0 a1 a2, l = [a0, a1, a2] := by
  match l, h with
  | [a0, a1, a2], _ => exact ⟨a0, a1, a2, rfl⟩
theorem list4 {α : Type} {l : List α} (h : l.length = 4) : ∃ a0 a1 a2 a3, l = [a0, a1, a2, a3] := by
  match l, h with
  | [a0, a1, a2, a3], _ => exact ⟨a0, a1, a2, a3, rfl⟩
theorem list5 {α : Type} {l : List α} (h : l.length = 5) : ∃ a0 a1 a2 a3 a4, l = [a0, a1, a2, a3, a4] := by
  match l, h with
  | [a0, a1, a2, a3, a4], _ => exact ⟨a0, a1, a2, a3, a4, rfl⟩
theorem list6 {α : Type} {l : List α} (h : l.length = 6) : ∃ a0 a1 a2 a3 a4 a5, l = [a0, a1, a2, a3, a4, a5] := by
  match l, h with
  | [a0, a1, a2, a3, a4, a5], _ => exact ⟨a0, a1, a2, a3, a4, a5, rfl⟩

theorem decStr {H : Type} {enc : TypeId × Value → H} {w : World} {base : Nat} {spare : Nat → Bool} {held : Bool} {n : Nat} {cs : List Value} {y : DataW H × List MemPlace} (h : DataW.trod enc Try.prog w base spare held n 9 cs = some y) (_ : cs.length = 1) : ∃ x : ByteArray, cs = [Value.string x] ∧ BigStr x := by
  obtain ⟨s, e, _, z⟩ := DataW.trod_string Try.underlying9 h
  refine ⟨s, e, ?_⟩
  unfold BigStr
  unfold maxLen at z
  omega
theorem decIm {H : Type} {enc : TypeId × Value → H} {w : World} {base : Nat} {spare : Nat → Bool} {held : Bool} {n : Nat} {cs : List Value} {y : DataW H × List MemPlace} (h : DataW.trod enc Try.prog w base spare held n 170 cs = some y) (hl : cs.length = 3) : ∃ x : Im, cs = imL x ∧ BigIm x := by
  obtain ⟨xs, k, _, _, _, hxl, hf⟩ := DataW.trod_struct Try.underlying170 h
  have cS : Try.prog.cellsOf 9 = 1 := by kernel_rfl
  obtain ⟨v0, v1, v2, rfl⟩ := list3 hl
  obtain ⟨y0, y1, y2, rfl⟩ := list3 (hxl.trans rfl)
  have g0 : DataW.trod enc Try.prog w base spare held k 9 (List.take (Try.prog.cellsOf 9) (List.drop 0 [v0, v1, v2])) = some y0 := hf 0 _ rfl
  rw [cS] at g0
  replace g0 : DataW.trod enc Try.prog w base spare held k 9 [v0] = some y0 := g0
  have g1 : DataW.trod enc Try.prog w base spare held k 9 (List.take (Try.prog.cellsOf 9) (List.drop 1 [v0, v1, v2])) = some y1 := hf 1 _ rfl
  rw [cS] at g1
  replace g1 : DataW.trod enc Try.prog w base spare held k 9 [v1] = some y1 := g1
  have g2 : DataW.trod enc Try.prog w base spare held k 9 (List.take (Try.prog.cellsOf 9) (List.drop 2 [v0, v1, v2])) = some y2 := hf 2 _ rfl
  rw [cS] at g2
  replace g2 : DataW.trod enc Try.prog w base spare held k 9 [v2] = some y2 := g2
  obtain ⟨s0, e0, _, z0⟩ := DataW.trod_string Try.underlying9 g0
  simp only [List.cons.injEq, and_true] at e0
  subst e0
  obtain ⟨s1, e1, _, z1⟩ := DataW.trod_string Try.underlying9 g1
  simp only [List.cons.injEq, and_true] at e1
  subst e1
  obtain ⟨s2, e2, _, z2⟩ := DataW.trod_string Try.underlying9 g2
  simp only [List.cons.injEq, and_true] at e2
  subst e2
  refine ⟨⟨s0, s1, s2⟩, rfl, ?_⟩
  unfold BigIm
  unfold maxLen at z0
  unfold maxLen at z1
  unfold maxLen at z2
  exact ⟨by show _ ≤ _; omega, by show _ ≤ _; omega, by show _ ≤ _; omega⟩
theorem decEp {H : Type} {enc : TypeId × Value → H} {w : World} {base : Nat} {spare : Nat → Bool} {held : Bool} {n : Nat} {cs : List Value} {y : DataW H × List MemPlace} (h : DataW.trod enc Try.prog w base spare held n 172 cs = some y) (hl : cs.length = 4) : ∃ x : Ep, cs = epL x ∧ BigEp x := by
  obtain ⟨xs, k, _, _, _, hxl, hf⟩ := DataW.trod_struct Try.underlying172 h
  have cS : Try.prog.cellsOf 9 = 1 := by kernel_rfl
  have cI : Try.prog.cellsOf 3 = 1 := by kernel_rfl
  obtain ⟨v0, v1, v2, v3, rfl⟩ := list4 hl
  obtain ⟨y0, y1, y2, y3, rfl⟩ := list4 (hxl.trans rfl)
  have g0 : DataW.trod enc Try.prog w base spare held k 3 (List.take (Try.prog.cellsOf 3) (List.drop 0 [v0, v1, v2, v3])) = some y0 := hf 0 _ rfl
  rw [cI] at g0
  replace g0 : DataW.trod enc Try.prog w base spare held k 3 [v0] = some y0 := g0
  have g1 : DataW.trod enc Try.prog w base spare held k 9 (List.take (Try.prog.cellsOf 9) (List.drop 1 [v0, v1, v2, v3])) = some y1 := hf 1 _ rfl
  rw [cS] at g1
  replace g1 : DataW.trod enc Try.prog w base spare held k 9 [v1] = some y1 := g1
  have g2 : DataW.trod enc Try.prog w base spare held k 9 (List.take (Try.prog.cellsOf 9) (List.drop 2 [v0, v1, v2, v3])) = some y2 := hf 2 _ rfl
  rw [cS] at g2
  replace g2 : DataW.trod enc Try.prog w base spare held k 9 [v2] = some y2 := g2
  have g3 : DataW.trod enc Try.prog w base spare held k 9 (List.take (Try.prog.cellsOf 9) (List.drop 3 [v0, v1, v2, v3])) = some y3 := hf 3 _ rfl
  rw [cS] at g3
  replace g3 : DataW.trod enc Try.prog w base spare held k 9 [v3] = some y3 := g3
  obtain ⟨s0, e0, _, z0⟩ := DataW.trod_int Try.underlying3 g0
  simp only [List.cons.injEq, and_true] at e0
  subst e0
  obtain ⟨s1, e1, _, z1⟩ := DataW.trod_string Try.underlying9 g1
  simp only [List.cons.injEq, and_true] at e1
  subst e1
  obtain ⟨s2, e2, _, z2⟩ := DataW.trod_string Try.underlying9 g2
  simp only [List.cons.injEq, and_true] at e2
  subst e2
  obtain ⟨s3, e3, _, z3⟩ := DataW.trod_string Try.underlying9 g3
  simp only [List.cons.injEq, and_true] at e3
  subst e3
  refine ⟨⟨s0, s1, s2, s3⟩, rfl, ?_⟩
  unfold BigEp
  unfold maxLen at z1
  unfold maxLen at z2
  unfold maxLen at z3
  exact ⟨by show _ ≤ _; omega, by show _ ≤ _; omega, by show _ ≤ _; omega⟩
theorem decSm {H : Type} {enc : TypeId × Value → H} {w : World} {base : Nat} {spare : Nat → Bool} {held : Bool} {n : Nat} {cs : List Value} {y : DataW H × List MemPlace} (h : DataW.trod enc Try.prog w base spare held n 174 cs = some y) (hl : cs.length = 3) : ∃ x : Sm, cs = smL x ∧ BigSm x := by
  obtain ⟨xs, k, _, _, _, hxl, hf⟩ := DataW.trod_struct Try.underlying174 h
  have cS : Try.prog.cellsOf 9 = 1 := by kernel_rfl
  have cI : Try.prog.cellsOf 3 = 1 := by kernel_rfl
  obtain ⟨v0, v1, v2, rfl⟩ := list3 hl
  obtain ⟨y0, y1, y2, rfl⟩ := list3 (hxl.trans rfl)
  have g0 : DataW.trod enc Try.prog w base spare held k 3 (List.take (Try.prog.cellsOf 3) (List.drop 0 [v0, v1, v2])) = some y0 := hf 0 _ rfl
  rw [cI] at g0
  replace g0 : DataW.trod enc Try.prog w base spare held k 3 [v0] = some y0 := g0
  have g1 : DataW.trod enc Try.prog w base spare held k 9 (List.take (Try.prog.cellsOf 9) (List.drop 1 [v0, v1, v2])) = some y1 := hf 1 _ rfl
  rw [cS] at g1
  replace g1 : DataW.trod enc Try.prog w base spare held k 9 [v1] = some y1 := g1
  have g2 : DataW.trod enc Try.prog w base spare held k 3 (List.take (Try.prog.cellsOf 3) (List.drop 2 [v0, v1, v2])) = some y2 := hf 2 _ rfl
  rw [cI] at g2
  replace g2 : DataW.trod enc Try.prog w base spare held k 3 [v2] = some y2 := g2
  obtain ⟨s0, e0, _, z0⟩ := DataW.trod_int Try.underlying3 g0
  simp only [List.cons.injEq, and_true] at e0
  subst e0
  obtain ⟨s1, e1, _, z1⟩ := DataW.trod_string Try.underlying9 g1
  simp only [List.cons.injEq, and_true] at e1
  subst e1
  obtain ⟨s2, e2, _, z2⟩ := DataW.trod_int Try.underlying3 g2
  simp only [List.cons.injEq, and_true] at e2
  subst e2
  refine ⟨⟨s0, s1, s2⟩, rfl, ?_⟩
  unfold BigSm
  unfold maxLen at z1
  show _ ≤ _
  omega
theorem decEx {H : Type} {enc : TypeId × Value → H} {w : World} {base : Nat} {spare : Nat → Bool} {held : Bool} {n : Nat} {cs : List Value} {y : DataW H × List MemPlace} (h : DataW.trod enc Try.prog w base spare held n 176 cs = some y) (hl : cs.length = 6) : ∃ x : Ex, cs = exL x ∧ BigEx x ∧ (-9223372036854775808 ≤ x.num ∧ x.num ≤ 9223372036854775807) := by
  obtain ⟨xs, k, _, _, _, hxl, hf⟩ := DataW.trod_struct Try.underlying176 h
  have cS : Try.prog.cellsOf 9 = 1 := by kernel_rfl
  have cI : Try.prog.cellsOf 3 = 1 := by kernel_rfl
  obtain ⟨v0, v1, v2, v3, v4, v5, rfl⟩ := list6 hl
  obtain ⟨y0, y1, y2, y3, y4, y5, rfl⟩ := list6 (hxl.trans rfl)
  have g0 : DataW.trod enc Try.prog w base spare held k 3 (List.take (Try.prog.cellsOf 3) (List.drop 0 [v0, v1, v2, v3, v4, v5])) = some y0 := hf 0 _ rfl
  rw [cI] at g0
  replace g0 : DataW.trod enc Try.prog w base spare held k 3 [v0] = some y0 := g0
  have g1 : DataW.trod enc Try.prog w base spare held k 3 (List.take (Try.prog.cellsOf 3) (List.drop 1 [v0, v1, v2, v3, v4, v5])) = some y1 := hf 1 _ rfl
  rw [cI] at g1
  replace g1 : DataW.trod enc Try.prog w base spare held k 3 [v1] = some y1 := g1
  have g2 : DataW.trod enc Try.prog w base spare held k 9 (List.take (Try.prog.cellsOf 9) (List.drop 2 [v0, v1, v2, v3, v4, v5])) = some y2 := hf 2 _ rfl
  rw [cS] at g2
  replace g2 : DataW.trod enc Try.prog w base spare held k 9 [v2] = some y2 := g2
  have g3 : DataW.trod enc Try.prog w base spare held k 9 (List.take (Try.prog.cellsOf 9) (List.drop 3 [v0, v1, v2, v3, v4, v5])) = some y3 := hf 3 _ rfl
  rw [cS] at g3
  replace g3 : DataW.trod enc Try.prog w base spare held k 9 [v3] = some y3 := g3
  have g4 : DataW.trod enc Try.prog w base spare held k 3 (List.take (Try.prog.cellsOf 3) (List.drop 4 [v0, v1, v2, v3, v4, v5])) = some y4 := hf 4 _ rfl
  rw [cI] at g4
  replace g4 : DataW.trod enc Try.prog w base spare held k 3 [v4] = some y4 := g4
  have g5 : DataW.trod enc Try.prog w base spare held k 3 (List.take (Try.prog.cellsOf 3) (List.drop 5 [v0, v1, v2, v3, v4, v5])) = some y5 := hf 5 _ rfl
  rw [cI] at g5
  replace g5 : DataW.trod enc Try.prog w base spare held k 3 [v5] = some y5 := g5
  obtain ⟨s0, e0, _, z0⟩ := DataW.trod_int Try.underlying3 g0
  simp only [List.cons.injEq, and_true] at e0
  subst e0
  obtain ⟨s1, e1, _, z1⟩ := DataW.trod_int Try.underlying3 g1
  simp only [List.cons.injEq, and_true] at e1
  subst e1
  obtain ⟨s2, e2, _, z2⟩ := DataW.trod_string Try.underlying9 g2
  simp only [List.cons.injEq, and_true] at e2
  subst e2
  obtain ⟨s3, e3, _, z3⟩ := DataW.trod_string Try.underlying9 g3
  simp only [List.cons.injEq, and_true] at e3
  subst e3
  obtain ⟨s4, e4, _, z4⟩ := DataW.trod_int Try.underlying3 g4
  simp only [List.cons.injEq, and_true] at e4
  subst e4
  obtain ⟨s5, e5, _, z5⟩ := DataW.trod_int Try.underlying3 g5
  simp only [List.cons.injEq, and_true] at e5
  subst e5
  refine ⟨⟨s0, s1, s2, s3, s4, s5⟩, rfl, ?_, wf_int z1⟩
  unfold BigEx
  unfold maxLen at z2
  unfold maxLen at z3
  exact ⟨by show _ ≤ _; omega, by show _ ≤ _; omega⟩
theorem mod_open {H : Type} {enc : TypeId × Value → H} {w : World} {base : Nat} {spare : Nat → Bool} {held : Bool} {fuel : Nat} {cs : List Value} {z : DataW H × List MemPlace} (h : DataW.trod enc Try.prog w base spare held fuel 28 cs = some z) :
    ∃ (A : MA) (m : Md), cs = (modA A m).cells.toList ∧ ModIn w A m ∧ BigM m ∧ Nums m.ex := by
  obtain ⟨xs, k, _, _, hl, hxl, hf⟩ := DataW.trod_struct Try.underlying28 h
  have cM : Try.prog.cellsOf 28 = 5 := by kernel_rfl
  rw [cM] at hl
  have kStr : Try.prog.cellsOf 22 = 1 := by kernel_rfl
  have kIm : Try.prog.cellsOf 23 = 1 := by kernel_rfl
  have kEp : Try.prog.cellsOf 24 = 1 := by kernel_rfl
  have kSm : Try.prog.cellsOf 25 = 1 := by kernel_rfl
  have kEx : Try.prog.cellsOf 26 = 1 := by kernel_rfl
  obtain ⟨v0, v1, v2, v3, v4, rfl⟩ := list5 hl
  obtain ⟨y0, y1, y2, y3, y4, rfl⟩ := list5 (hxl.trans rfl)
  have g0 : DataW.trod enc Try.prog w base spare held k 22 (List.take (Try.prog.cellsOf 22) (List.drop 0 [v0, v1, v2, v3, v4])) = some y0 := hf 0 _ rfl
  rw [kStr] at g0
  replace g0 : DataW.trod enc Try.prog w base spare held k 22 [v0] = some y0 := g0
  have g1 : DataW.trod enc Try.prog w base spare held k 23 (List.take (Try.prog.cellsOf 23) (List.drop 1 [v0, v1, v2, v3, v4])) = some y1 := hf 1 _ rfl
  rw [kIm] at g1
  replace g1 : DataW.trod enc Try.prog w base spare held k 23 [v1] = some y1 := g1
  have g2 : DataW.trod enc Try.prog w base spare held k 24 (List.take (Try.prog.cellsOf 24) (List.drop 2 [v0, v1, v2, v3, v4])) = some y2 := hf 2 _ rfl
  rw [kEp] at g2
  replace g2 : DataW.trod enc Try.prog w base spare held k 24 [v2] = some y2 := g2
  have g3 : DataW.trod enc Try.prog w base spare held k 25 (List.take (Try.prog.cellsOf 25) (List.drop 3 [v0, v1, v2, v3, v4])) = some y3 := hf 3 _ rfl
  rw [kSm] at g3
  replace g3 : DataW.trod enc Try.prog w base spare held k 25 [v3] = some y3 := g3
  have g4 : DataW.trod enc Try.prog w base spare held k 26 (List.take (Try.prog.cellsOf 26) (List.drop 4 [v0, v1, v2, v3, v4])) = some y4 := hf 4 _ rfl
  rw [kEx] at g4
  replace g4 : DataW.trod enc Try.prog w base spare held k 26 [v4] = some y4 := g4
  obtain ⟨a0, c0, l0, e0, b0, r0, q0⟩ := row_open sNone (α := ByteArray) (f := (fun x => [Value.string x])) (m := 1) (Q := BigStr) (by omega) (fun _ => rfl) Try.underlying22 (by kernel_rfl) (fun n cs y h hl => decStr h hl) g0
  subst e0
  obtain ⟨a1, c1, l1, e1, b1, r1, q1⟩ := row_open ⟨sNone, sNone, sNone⟩ (α := Im) (f := imL) (m := 3) (Q := BigIm) (by omega) (fun _ => rfl) Try.underlying23 (by kernel_rfl) (fun n cs y h hl => decIm h hl) g1
  subst e1
  obtain ⟨a2, c2, l2, e2, b2, r2, q2⟩ := row_open ⟨0, sNone, sNone, sNone⟩ (α := Ep) (f := epL) (m := 4) (Q := BigEp) (by omega) (fun _ => rfl) Try.underlying24 (by kernel_rfl) (fun n cs y h hl => decEp h hl) g2
  subst e2
  obtain ⟨a3, c3, l3, e3, b3, r3, q3⟩ := row_open ⟨0, sNone, 0⟩ (α := Sm) (f := smL) (m := 3) (Q := BigSm) (by omega) (fun _ => rfl) Try.underlying25 (by kernel_rfl) (fun n cs y h hl => decSm h hl) g3
  subst e3
  obtain ⟨a4, c4, l4, e4, b4, r4, q4⟩ := row_open exNo (α := Ex) (f := exL) (m := 6) (Q := (fun x => BigEx x ∧ (-9223372036854775808 ≤ x.num ∧ x.num ≤ 9223372036854775807))) (by omega) (fun _ => rfl) Try.underlying26 (by kernel_rfl) (fun n cs y h hl => decEx h hl) g4
  subst e4
  unfold maxLen at b0 b1 b2 b3 b4
  refine ⟨⟨a0, a1, a2, a3, a4, c0, c1, c2, c3, c4⟩, ⟨l0, l1, l2, l3, l4⟩, rfl, ⟨r0, r1, r2, r3, r4⟩, ⟨⟨?_, q0⟩, ⟨?_, q1⟩, ⟨?_, q2⟩, ⟨?_, q3⟩, ⟨?_, fun x hx => (q4 x hx).1⟩⟩, fun x hx => (q4 x hx).2⟩
  · show l0.length ≤ _
    omega
  · show l1.length ≤ _
    omega
  · show l2.length ≤ _
    omega
  · show l3.length ≤ _
    omega
  · show l4.length ≤ _
    omega
end Go.Proofs.Ytdbpknmoacjodaa
namespace Go.Proofs.Ytdbpknmoacjodaa
open Go.RowKit Go.PlainAid Go.Sort

def boxD (S : Sv) (m : Md) : Obj := .cells #[.slice S.rq.a m.rq.length S.rq.cap, .slice S.im.a m.im.length S.im.cap, .slice S.ep.a m.ep.length S.ep.cap, .slice S.st.a m.st.length S.st.cap, .slice S.ex.a m.ex.length S.ex.cap] 37
def box0 : Obj := .cells #[.slice none 0 0, .slice none 0 0, .slice none 0 0, .slice none 0 0, .slice none 0 0] 37
theorem below_al {w w' : World} {o : Obj} (h : Below (w.alloc o).heap.size (w.alloc o) w') : Below w.heap.size w w' := ((Below.refl _ _).alloc (Nat.le_refl _) _).trans (h.mono (by rw [alloc_size]; omega))
theorem blk_later {w w' : World} {k : Nat} {o : Obj} (h : w.heap[k]? = some o) (hb : Below w.heap.size w w') : w'.heap[k]? = some o := (hb.block k (Array.getElem?_eq_some_iff.1 h).1).trans h
end Go.Proofs.Ytdbpknmoacjodaa
namespace Go.Proofs.Ytdbpknmoacjodaa
open Go.RowKit Go.PlainAid Go.Sort

def boxA (A : MA) (m : Md) : Obj := .cells #[.slice A.a0 m.rq.length A.c0, .slice A.a1 m.im.length A.c1, .slice A.a2 m.ep.length A.c2, .slice A.a3 m.st.length A.c3, .slice A.a4 m.ex.length A.c4] 28
end Go.Proofs.Ytdbpknmoacjodaa
namespace Go.Proofs.Ytdbpknmoacjodaa
open Go.RowKit Go.PlainAid Go.Sort

def mdig : Nat → Nat → ByteArray → ByteArray
  | 0, _, o => o
  | f + 1, k, o => if k = 0 then o else mdig f (k / 10) (strOfNums [48 + (k : Int) % 10] ++ o)
def mtS (k : Nat) : ByteArray := { data := #[109] } ++ mdig k k { data := #[] }
theorem mdig_zero (f : Nat) (o : ByteArray) : mdig f 0 o = o := by cases f <;> rfl
theorem mdig_step {f k : Nat} {o : ByteArray} (h : k ≤ f) (hk : 0 < k) : ∃ f', k / 10 ≤ f' ∧ mdig f k o = mdig f' (k / 10) (strOfNums [48 + (k : Int) % 10] ++ o) := by
  match f, h with
  | 0, h => omega
  | f + 1, h => exact ⟨f, by omega, by rw [mdig, if_neg (by omega)]⟩
set_option maxHeartbeats 1600000 in
theorem markText_far (k0 : Nat) (w : World) (_ : 0 < k0) (h1 : k0 ≤ 8000000) :
    Calls Try.prog 71 #[.int .i64 k0] w fun e w' => e = .returned (.string (mtS k0)) ∧ Below w.heap.size w w' := by
  go_enter Try.func71, Try.ntmps71
  go_wp2
  go_loopw [0, 3] (fun i o wr => ∃ (k f m : Nat) (x : ByteArray), i = .int .i64 k ∧ o = .string x ∧ k ≤ f ∧ k ≤ 8000000 ∧ mdig f k x = mdig k0 k0 { data := #[] } ∧ x.size ≤ m ∧ k + m ≤ 8000000 ∧ Below w.heap.size w wr) (fun i _ _ => (intOf i).toNat)
  case atStart => exact ⟨k0, k0, 0, _, rfl, rfl, Nat.le_refl _, h1, rfl, Nat.le_refl _, by omega, Below.refl _ _⟩
  case round =>
    obtain ⟨k, f, m, x, rfl, rfl, hkf, hk1, hd, hx, hxm, hb⟩ := hrel
    have HD : Hid (mdig f k x = mdig k0 k0 { data := #[] }) := hd
    clear hd
    by_cases hk : 0 < k
    · obtain ⟨f', hf', hst⟩ := mdig_step (o := x) hkf hk
      have HN : Hid (mdig f' (k / 10) (strOfNums [48 + (k : Int) % 10] ++ x) = mdig k0 k0 { data := #[] }) := hst.symm.trans HD.out
      have hst := fun (w : World) (x : Int) => run_string_one (P := Try.prog) (src := 59) (dst := 9) Try.underlying59 Try.underlying5 Try.underlying9 w x
      have hone := fun x => strOfNums_size [x]
      have hdv : k / 10 + 1 ≤ k := by omega
      go_wp2
      go_roundw
      case rel => exact ⟨k / 10, f', m + 1, _, by go_num, rfl, hf', by omega, HN.out, by rw [ByteArray.size_append, hone]; simp; omega, by omega, hb.alloc hb.size _⟩
      case measure => simp [intOf]; omega
    · obtain rfl : k = 0 := by omega
      have HE : Hid (x = mdig k0 k0 { data := #[] }) := by have := HD.out; rw [mdig_zero] at this; exact this
      go_wp2
      go_ret
      exact ⟨ret_str (by rw [HE.out]; rfl), hb⟩
theorem markText_any (k0 : Nat) (w : World) (h0 : 0 < k0) (h1 : k0 ≤ 100000) :
    Calls Try.prog 71 #[.int .i64 k0] w fun e w' => e = .returned (.string (mtS k0)) ∧ Below w.heap.size w w' := markText_far k0 w h0 (by omega)
end Go.Proofs.Ytdbpknmoacjodaa
