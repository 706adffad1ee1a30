/-
  What the walks of chapter 16 hold; what spec's l16Named answers.
  Programs in boxes. No program is spoken of but for the numbers of its types.
-/
import Derived.Test.YtdbpknmoacjodaaCeSpecInToSpecPut
import Derived.Test.YtdbpknmoacjodaaCeRowBase
namespace Go.Proofs.Ytdbpknmoacjodaa
open Go.RowKit Go.PlainAid Go.Sort

structure MdR (w : World) (V : Sv) (m : Md) : Prop where
  im : RowAt w V.im.a imL 3 m.im
  ep : RowAt w V.ep.a epL 4 m.ep
  st : RowAt w V.st.a smL 3 m.st
  ex : RowAt w V.ex.a exL 6 m.ex
theorem MdR.later {w w' : World} {V : Sv} {m : Md} (h : MdR w V m) (hb : Below w.heap.size w w') : MdR w' V m := ⟨h.im.later hb, h.ep.later hb, h.st.later hb, h.ex.later hb⟩
theorem five_at {w : World} {b : Nat} {t : TypeId} {v0 v1 v2 v3 v4 : Value} (h : w.heap[b]? = some (.cells #[v0, v1, v2, v3, v4] t (0, 0))) :
    w.cell? ⟨b, 0, none⟩ = some v0 ∧ w.cell? ⟨b, 1, none⟩ = some v1 ∧ w.cell? ⟨b, 2, none⟩ = some v2 ∧ w.cell? ⟨b, 3, none⟩ = some v3 ∧ w.cell? ⟨b, 4, none⟩ = some v4 := by
  refine ⟨?_, ?_, ?_, ?_, ?_⟩ <;> simp [World.cell?, h]
structure UW (w : World) (bx : Obj) (g n cap : Nat) (xs : List ByteArray) (W : World) : Prop where
  box : W.heap[w.heap.size]? = some bx
  bel : Below w.heap.size w W
  own : OwnS W (w.heap.size + 1) 9 g n cap xs
  siz : w.heap.size + 1 ≤ W.heap.size
theorem UW.put {w W W' : World} {bx : Obj} {g n cap g' n' cap' : Nat} {xs ys : List ByteArray} (h : UW w bx g n cap xs W) (hb : Below W.heap.size W W') (ho : OwnS W' (w.heap.size + 1) 9 g' n' cap' ys) : UW w bx g' n' cap' ys W' :=
  ⟨(hb.block _ (Array.getElem?_eq_some_iff.1 h.box).1).trans h.box, h.bel.trans (hb.mono h.bel.size), ho, Nat.le_trans h.siz hb.size⟩
theorem UW.app {w W W' : World} {bx : Obj} {g n cap g' n' cap' : Nat} {xs ys : List ByteArray} (h : UW w bx g n cap xs W) (ho : OwnS W' (w.heap.size + 1) 9 g' n' cap' ys) (hg : W.grownBy W' (some g)) : UW w bx g' n' cap' ys W' := by
  have hk := ownS_blk h.own
  have hx := (Array.getElem?_eq_some_iff.1 h.box).1
  exact ⟨(hg.block _ hx fun e => by have := Option.some.inj e; omega).trans h.box, h.bel.grown hg h.bel.size fun k e => by have := Option.some.inj e; omega, ho, Nat.le_trans h.siz hg.size⟩
theorem UW.aside {w W W' : World} {bx : Obj} {g n cap x : Nat} {xs : List ByteArray} (h : UW w bx g n cap xs W) (hg : W.grownBy W' (some x)) (hx : w.heap.size + 1 ≤ x) (hn : g < x) : UW w bx g n cap xs W' := by
  have hk := ownS_blk h.own
  have hz := (Array.getElem?_eq_some_iff.1 h.box).1
  exact ⟨(hg.block _ hz fun e => by have := Option.some.inj e; omega).trans h.box, h.bel.grown hg h.bel.size fun k e => by have := Option.some.inj e; omega, ownS_keep h.own (hg.block g hk.2 fun e => by have := Option.some.inj e; omega), Nat.le_trans h.siz hg.size⟩
theorem UW.start (w : World) (bx : Obj) : UW w bx (w.heap.size + 1) 0 0 [] ((w.alloc bx).alloc (.cells #[] 9)) := by
  have e : (w.alloc bx).heap.size = w.heap.size + 1 := alloc_size w bx
  refine ⟨(heap_alloc_old _ _ (by rw [e]; omega)).trans (heap_alloc_new w _), ((Below.refl _ _).alloc (Nat.le_refl _) _).alloc (by rw [e]; omega) _, ?_, by rw [alloc_size, e]; omega⟩
  have := World.ownsRow_lit (w.alloc bx) (base := w.heap.size + 1) (e := 9) (size := 1) #[] 0 (by rw [e]; exact Nat.le_refl _) (by unfold maxLen; omega) rfl
  rw [e] at this
  exact ⟨this, rfl⟩
def UseOut (w : World) (l : List ByteArray) (e : Ending) (w' : World) : Prop := ∃ g n cap, e = .returned (.slice (some ⟨g, 0, none⟩) n cap) ∧ OwnS w' w.heap.size 9 g n cap l ∧ Below w.heap.size w w'
end Go.Proofs.Ytdbpknmoacjodaa
namespace Go.Proofs.Ytdbpknmoacjodaa
open Go.RowKit Go.PlainAid Go.Sort

def boxD (S : Sv) (m : Md) : Obj := .cells #[.slice S.rq.a m.rq.length S.rq.cap, .slice S.im.a m.im.length S.im.cap, .slice S.ep.a m.ep.length S.ep.cap, .slice S.st.a m.st.length S.st.cap, .slice S.ex.a m.ex.length S.ex.cap] 37
def box0 : Obj := .cells #[.slice none 0 0, .slice none 0 0, .slice none 0 0, .slice none 0 0, .slice none 0 0] 37
theorem below_al {w w' : World} {o : Obj} (h : Below (w.alloc o).heap.size (w.alloc o) w') : Below w.heap.size w w' := ((Below.refl _ _).alloc (Nat.le_refl _) _).trans (h.mono (by rw [alloc_size]; omega))
theorem blk_later {w w' : World} {k : Nat} {o : Obj} (h : w.heap[k]? = some o) (hb : Below w.heap.size w w') : w'.heap[k]? = some o := (hb.block k (Array.getElem?_eq_some_iff.1 h).1).trans h
end Go.Proofs.Ytdbpknmoacjodaa
