/-
  What plainName, plainOrDefault and itemWord of impl's parser answer: the walks.
  What room of impl's parser answers: the walks.
-/
import Derived.Test.YtdbpknmoacjodaaCfImplParseAToImplParseB
namespace Go.Proofs.Ytdbpknmoacjodaa
open Go.RowKit Go.PlainAid Go.Sort

theorem name_no_res {C : Cx} {q : PS} (h : resB (tokAt C q.pos).text C.scr = true) : nameP C false q = .error (here C q.pos) := by
  have : plainB C q.pos false = false := by rw [plainB, h]; simp
  rw [nameP, this]; rfl
theorem name_no_kind {C : Cx} {o : Bool} {q : PS} (h : ((tokAt C q.pos).kind == 1) = false) : nameP C o q = .error (here C q.pos) := by
  have : plainB C q.pos o = false := by rw [plainB, h]; rfl
  rw [nameP, this]; rfl
theorem name_is {C : Cx} {q : PS} (h : ((tokAt C q.pos).kind == 1) = true) (h2 : resB (tokAt C q.pos).text C.scr = false) : nameP C false q = .ok (adv q, (tokAt C q.pos).text) := by
  have : plainB C q.pos false = true := by rw [plainB, h, h2]; rfl
  rw [nameP, this]; rfl
theorem name_def {C : Cx} {q : PS} (h : isT C q.pos 1 sDefault = true) : nameP C true q = .ok (adv q, (tokAt C q.pos).text) := by
  have h' := h
  simp only [isT, Bool.and_eq_true] at h'
  have h2 : ((tokAt C q.pos).text.toList == [100, 101, 102, 97, 117, 108, 116]) = true := by
    have e : sDefault.toList = [100, 101, 102, 97, 117, 108, 116] := by simp
    rw [← e]; exact h'.2
  have : plainB C q.pos true = true := by rw [plainB, h'.1, h2]; simp
  rw [nameP, this]; rfl
theorem name_other {C : Cx} {q : PS} (h : isT C q.pos 1 sDefault = false) : nameP C true q = nameP C false q := by
  have e : sDefault.toList = [100, 101, 102, 97, 117, 108, 116] := by simp
  have : plainB C q.pos true = plainB C q.pos false := by
    simp only [isT, e] at h
    simp only [plainB]
    cases h1 : ((tokAt C q.pos).kind == 1) with
    | false => rfl
    | true =>
      rw [h1, Bool.true_and] at h
      rw [h]
      simp
  rw [nameP, nameP, this]
end Go.Proofs.Ytdbpknmoacjodaa
namespace Go.Proofs.Ytdbpknmoacjodaa
open Go.RowKit Go.PlainAid Go.Sort

end Go.Proofs.Ytdbpknmoacjodaa
