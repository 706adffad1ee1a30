/-
  Rows of texts and of files that a call hands back, nil or not: how the laws' helpers take them.
  What laws.big answers: the walk.
-/
import Derived.Test.YtdbpknmoacjodaaCfLawMarkPToLawStrP
import Derived.Test.YtdbpknmoacjodaaCfLawFilesM
namespace Go.Proofs.Ytdbpknmoacjodaa
open Go.RowKit Go.PlainAid Go.Sort

def OutS (w : World) (base : Nat) (a : Option Addr) (n cap : Nat) (xs : List ByteArray) : Prop := n = xs.length ∧ (0 < n → ∃ g, a = some ⟨g, 0, none⟩ ∧ OwnS w base 9 g n cap xs)
theorem OutS.own {w : World} {base g n cap : Nat} {xs : List ByteArray} (h : OwnS w base 9 g n cap xs) : OutS w base (some ⟨g, 0, none⟩) n cap xs := ⟨h.2, fun _ => ⟨g, rfl, h⟩⟩
theorem OutS.nil (w : World) (base : Nat) (a : Option Addr) (cap : Nat) : OutS w base a 0 cap [] := ⟨rfl, fun h => absurd h (Nat.lt_irrefl _)⟩
theorem OutS.later {w W : World} {base n cap : Nat} {a : Option Addr} {xs : List ByteArray} (h : OutS w base a n cap xs) (hb : Below w.heap.size w W) : OutS W base a n cap xs :=
  ⟨h.1, fun k => by obtain ⟨g, e, h1⟩ := h.2 k; exact ⟨g, e, ownS_later h1 hb⟩⟩
theorem OutS.texts {w : World} {base n cap : Nat} {a : Option Addr} {xs : List ByteArray} (h : OutS w base a n cap xs) : ∃ g, TextsAt w a g n (fun j => xs.getD j { data := #[] }) := by
  rcases Nat.eq_zero_or_pos n with e | e
  · subst e
    exact ⟨0, TextsAt.nil _ _ _ _⟩
  · obtain ⟨g, rfl, h1⟩ := h.2 e
    exact ⟨g, ownS_texts h1⟩
def Marked (w : World) (base : Nat) (t : TypeId) (size : Nat) (a : Option Addr) (n cap : Nat) : Prop := 0 < n → ∃ g, a = some ⟨g, 0, none⟩ ∧ OwnM w base t size g n cap 1 (n * size)
theorem Marked.later {w W : World} {base size n cap : Nat} {t : TypeId} {a : Option Addr} (h : Marked w base t size a n cap) (hb : Below w.heap.size w W) : Marked W base t size a n cap :=
  fun k => by obtain ⟨g, e, h1⟩ := h k; exact ⟨g, e, h1.later hb⟩
theorem gm_under {w w' : World} {g b : Nat} (h : w.grownBy w' (some g)) (hb : b ≤ g) (hw : b ≤ w.heap.size) : Below b w w' :=
  ⟨h.os, h.tape, h.output, h.size, fun k hk => h.block k (by omega) fun e => by have := Option.some.inj e; omega⟩
def OutF (w : World) (base : Nat) (a : Option Addr) (n cap : Nat) (fs : List Fl) : Prop := n = fs.length ∧ (0 < n → ∃ g, a = some ⟨g, 0, none⟩ ∧ OwnFl w base 52 g n cap fs)
theorem OutF.own {w : World} {base g n cap : Nat} {fs : List Fl} (h : OwnFl w base 52 g n cap fs) : OutF w base (some ⟨g, 0, none⟩) n cap fs := ⟨h.2, fun _ => ⟨g, rfl, h⟩⟩
theorem OutF.nil (w : World) (base : Nat) (a : Option Addr) (cap : Nat) : OutF w base a 0 cap [] := ⟨rfl, fun h => absurd h (Nat.lt_irrefl _)⟩
theorem OutF.later {w W : World} {base n cap : Nat} {a : Option Addr} {fs : List Fl} (h : OutF w base a n cap fs) (hb : Below w.heap.size w W) : OutF W base a n cap fs :=
  ⟨h.1, fun k => by obtain ⟨g, e, h1⟩ := h.2 k; exact ⟨g, e, ownFl_later h1 hb⟩⟩
theorem files_nil (w : World) (a : Option Addr) (b off : Nat) (Pt Tx : Nat → ByteArray) : FilesAt w a b off 0 Pt Tx := ⟨fun h => absurd h (Nat.lt_irrefl _), fun h => absurd h (Nat.lt_irrefl _), fun j hj => absurd hj (Nat.not_lt_zero j), fun j hj => absurd hj (Nat.not_lt_zero j)⟩
theorem OutF.files {w : World} {base n cap : Nat} {a : Option Addr} {fs : List Fl} (h : OutF w base a n cap fs) : ∃ g, FilesAt w a g 0 n (ptOf fs) (txOf fs) := by
  rcases Nat.eq_zero_or_pos n with e | e
  · subst e
    exact ⟨0, files_nil _ _ _ _ _ _⟩
  · obtain ⟨g, rfl, h1⟩ := h.2 e
    exact ⟨g, ownFl_files h1⟩
theorem markF_out (w : World) (base : Nat) (a : Option Addr) (n cap : Nat) (fs : List Fl) (h : OutF w base a n cap fs) (hw : base ≤ w.heap.size) (hn : n ≤ 1048576) :
    Calls Try.prog 23 #[.slice a n cap, .int .i64 1] w fun e w' => e = .returned (.int .i64 ((1 + n * 2 : Nat) : Int)) ∧ Marked w' base 52 2 a n cap ∧ Below base w w' := by
  rcases Nat.eq_zero_or_pos n with e | e
  · subst e
    refine (markFileS_zeroP a cap 1 w).mono ?_
    rintro e w1 ⟨rfl, rfl⟩
    exact ⟨rfl, fun k => absurd k (Nat.lt_irrefl _), Below.refl _ _⟩
  · obtain ⟨g, rfl, h1⟩ := h.2 e
    refine (markFileS_rowP base g n cap 1 w (OwnM.start h1.1 1) hn (by omega) (by omega)).mono ?_
    rintro e w1 ⟨rfl, h2, h3⟩
    exact ⟨rfl, fun _ => ⟨g, rfl, h2⟩, gm_under h3 (ownFl_blk h1).1 hw⟩
theorem heldF_out (w : World) (base : Nat) (a : Option Addr) (n cap : Nat) (h : Marked w base 52 2 a n cap) (hn : n ≤ 1048576) :
    Calls Try.prog 24 #[.slice a n cap, .int .i64 1] w fun e w' => e = .returned (.int .i64 ((1 + n * 2 : Nat) : Int)) ∧ Below w.heap.size w w' := by
  rcases Nat.eq_zero_or_pos n with e | e
  · subst e
    refine (heldFileS_zeroP a cap 1 w).mono ?_
    rintro e w1 ⟨rfl, rfl⟩
    exact ⟨rfl, Below.refl _ _⟩
  · obtain ⟨g, rfl, h1⟩ := h e
    exact heldFileS_rowP base g n cap 1 w h1 hn (by omega) (by omega)
theorem OutS.aside {w w' : World} {base n cap x : Nat} {a : Option Addr} {xs : List ByteArray} (h : OutS w base a n cap xs) (hg : w.grownBy w' (some x)) (hx : x < base) : OutS w' base a n cap xs :=
  ⟨h.1, fun k => by
    obtain ⟨g, e, h1⟩ := h.2 k
    have hk := ownS_blk h1
    exact ⟨g, e, ownS_keep h1 (hg.block g hk.2 (fun e' => by have := Option.some.inj e'; omega))⟩⟩
theorem OutF.aside {w w' : World} {base n cap x : Nat} {a : Option Addr} {fs : List Fl} (h : OutF w base a n cap fs) (hg : w.grownBy w' (some x)) (hx : x < base) : OutF w' base a n cap fs :=
  ⟨h.1, fun k => by
    obtain ⟨g, e, h1⟩ := h.2 k
    have hk := ownFl_blk h1
    exact ⟨g, e, ownFl_keep h1 (hg.block g hk.2 (fun e' => by have := Option.some.inj e'; omega))⟩⟩
theorem ownF_blk {w : World} {base g len : Nat} {e : TypeId} {Pt Tx : Nat → ByteArray} (h : OwnF w base e g len len Pt Tx) : base ≤ g ∧ g < w.heap.size := by
  obtain ⟨xs, h1, _⟩ := h
  exact (OwnM.start h1 1).blk
theorem markF_arg (w : World) (base g len : Nat) (Pt Tx : Nat → ByteArray) (h : OwnF w base 52 g len len Pt Tx) (hn : len ≤ 1048576) :
    Calls Try.prog 23 #[.slice (some ⟨g, 0, none⟩) len len, .int .i64 1] w fun e w' => e = .returned (.int .i64 ((1 + len * 2 : Nat) : Int)) ∧ w.grownBy w' (some g) := by
  obtain ⟨xs, h1, _⟩ := h
  refine (markFileS_rowP base g len len 1 w (OwnM.start h1 1) hn (by omega) (by omega)).mono ?_
  rintro e w1 ⟨rfl, _, h3⟩
  exact ⟨rfl, h3⟩
theorem markF_argK (k0 : Nat) (w : World) (base g len : Nat) (Pt Tx : Nat → ByteArray) (h : OwnF w base 52 g len len Pt Tx) (hn : len ≤ 1048576) (hk0 : 0 < k0) (hk : k0 ≤ 4194304) :
    Calls Try.prog 23 #[.slice (some ⟨g, 0, none⟩) len len, .int .i64 (k0 : Int)] w fun e w' => e = .returned (.int .i64 ((k0 + len * 2 : Nat) : Int)) ∧ w.grownBy w' (some g) := by
  obtain ⟨xs, h1, _⟩ := h
  refine (markFileS_rowP base g len len k0 w (OwnM.start h1 k0) hn hk0 hk).mono ?_
  rintro e w1 ⟨rfl, _, h3⟩
  exact ⟨rfl, h3⟩
theorem OwnF.asideF {w w' : World} {base g len x : Nat} {e : TypeId} {Pt Tx : Nat → ByteArray} (h : OwnF w base e g len len Pt Tx) (hg : w.grownBy w' (some x)) (hx : x < base) : OwnF w' base e g len len Pt Tx := by
  have hk := ownF_blk h
  obtain ⟨xs, h1, h2⟩ := h
  refine ⟨xs, ⟨h1.1, ?_⟩, h2⟩
  rcases h1.2 with ⟨h', _⟩ | ⟨g', cap', cur, h', hbs, hgg, hr⟩
  · simp at h'
  · simp only [Value.slice.injEq, Option.some.injEq, Addr.mk.injEq, and_true, true_and] at h'
    obtain ⟨rfl, rfl⟩ := h'
    exact .inr ⟨g, len, cur, rfl, hbs, (hg.block g hk.2 (fun e' => by have := Option.some.inj e'; omega)).trans hgg, hr⟩
end Go.Proofs.Ytdbpknmoacjodaa
namespace Go.Proofs.Ytdbpknmoacjodaa
open Go.RowKit Go.PlainAid

theorem big_any (a : Option Addr) (len cap : Nat) (w : World) (_ : len ≤ 9223372036854775807) :
    Calls Try.prog 27 #[.slice a len cap] w fun e w' => e = .returned (.bool (decide ((1048576 : Int) < len))) ∧ w' = w := by
  go_enter Try.func27, Try.ntmps27
  go_wp2
  go_ret
  exact ⟨rfl, rfl⟩
end Go.Proofs.Ytdbpknmoacjodaa
