/-
  What the laws' markers and askers of lists of texts and of files answer: the walks.
  What the laws' comparer of lists of texts answers, without a program's rows: the walk.
-/
import Derived.Deep.LoopGhost
import Derived.Test.YtdbpknmoacjodaaCfSpecReadFilesToMarkRow
namespace Go.Proofs.Ytdbpknmoacjodaa
open Go.RowKit Go.PlainAid Go.Sort

set_option maxRecDepth 100000 in
set_option maxHeartbeats 3200000 in
theorem markFileS_zeroP (a1 : Option Addr) (c1 k0 : Nat) (w : World) : Calls Try.prog 23 #[.slice a1 0 c1, .int .i64 k0] w fun e w' => e = .returned (.int .i64 k0) ∧ w' = w := by
  go_enter Try.func23, Try.ntmps23
  go_wp2
  go_loopg [1, 5] 1 (fun k q i wr => k = 1 ∧ q = .int .i64 k0 ∧ i = .int .i64 0 ∧ wr = w)
  case atStart => exact ⟨rfl, rfl, rfl, rfl⟩
  case round =>
    obtain ⟨rfl, rfl, rfl, rfl⟩ := hrel
    go_wp2
    go_ret
    exact ⟨rfl, rfl⟩
set_option maxRecDepth 100000 in
set_option maxHeartbeats 3200000 in
theorem markFileS_rowP (base g n cap k0 : Nat) (w : World) (h1 : OwnM w base 52 2 g n cap k0 (0)) (hn : n ≤ 1048576) (hk0 : 0 < k0) (hk : k0 ≤ 4194304) :
    Calls Try.prog 23 #[.slice (some ⟨g, 0, none⟩) n cap, .int .i64 k0] w fun e w' => e = .returned (.int .i64 ((k0 + n * 2 : Nat) : Int)) ∧ OwnM w' base 52 2 g n cap k0 (n * 2) ∧ w.grownBy w' (some g) := by
  have H1 := hidU h1
  clear h1
  go_enter Try.func23, Try.ntmps23
  go_wp2
  go_loopg [1, 5] n (fun k q i wr => ∃ j : Nat, i = .int .i64 j ∧ j + k = n ∧ q = .int .i64 ((k0 + j * 2 : Nat) : Int) ∧ OwnM wr base 52 2 g n cap k0 (j * 2) ∧ w.grownBy wr (some g))
  case atStart => exact ⟨0, rfl, by omega, by simp, by rw [Nat.zero_mul]; exact H1.out, gm_refl _ _⟩
  case round =>
    obtain ⟨j, rfl, hj, hq, ho, hg⟩ := hrel
    have HOr := hidU ho
    have HGr := hidU hg
    clear ho hg
    by_cases hlt : j < n
    · have hlti : (j : Int) < (n : Int) := by omega
      obtain ⟨q0, hq0⟩ : ∃ q0 : Nat, q0 = k0 + (j * 2) := ⟨_, rfl⟩
      rw [← hq0] at hq
      subst hq
      obtain ⟨q1, hq1⟩ : ∃ q1 : Nat, q1 = q0 + 1 := ⟨_, rfl⟩
      have eq1 : (q0 : Int) + 1 = (q1 : Int) := by omega
      obtain ⟨q2, hq2⟩ : ∃ q2 : Nat, q2 = q1 + 1 := ⟨_, rfl⟩
      have eq2 : (q1 : Int) + 1 = (q2 : Int) := by omega
      have HF0 : Hid (q0 = k0 + (j * 2)) := by show q0 = _; omega
      have HF1 : Hid (q1 = k0 + (j * 2 + 1)) := by show q1 = _; omega
      have HQ : Hid (q2 = k0 + (j * 2 + 2)) := by show q2 = _; omega
      have hqb : q2 ≤ 7000000 := by omega
      have hq0p : 0 < q0 := by omega
      have HQB0 : Hid (0 < q0 ∧ q0 ≤ 8000000) := ⟨by omega, by omega⟩
      have HQB1 : Hid (0 < q1 ∧ q1 ≤ 8000000) := ⟨by omega, by omega⟩
      obtain ⟨j1, hj1⟩ : ∃ j1, j1 = j + 1 := ⟨_, rfl⟩
      have ej : (j : Int) + 1 = (j1 : Int) := by omega
      have HJ := hidU hj1
      clear hj1 hq0 hq1 hq2
      obtain ⟨vr0, hvr0⟩ := HOr.out.has (j * 2) (by omega)
      have hfr0 := HOr.out.free (j * 2)
      obtain ⟨vr1, hvr1⟩ := HOr.out.has (j * 2 + 1) (by omega)
      have hfr1 := HOr.out.free (j * 2 + 1)
      go_wp2_with fail
      refine (markText_far q0 _ HQB0.out.1 HQB0.out.2).mono ?_
      rintro e w0 ⟨rfl, hb0⟩
      have HO0 := hidU (HOr.out.later hb0)
      have HG0 := hidU (gm_below HGr.out hb0)
      clear hb0
      obtain ⟨vt0_0, hvt0_0⟩ := HO0.out.has (j * 2) (by omega)
      have hft0_0 := HO0.out.free (j * 2)
      obtain ⟨vt0_1, hvt0_1⟩ := HO0.out.has (j * 2 + 1) (by omega)
      have hft0_1 := HO0.out.free (j * 2 + 1)
      have HO0x : Hid (OwnM (w0.setCell ⟨g, j * 2, none⟩ (.string (mtS q0))) base 52 2 g n cap k0 (j * 2 + 1)) := HO0.out.put (by omega) HF0.out
      have HG0x : Hid (w.grownBy (w0.setCell ⟨g, j * 2, none⟩ (.string (mtS q0))) (some g)) := gm_set HG0.out
      go_wp2_with fail
      refine (markText_far q1 _ HQB1.out.1 HQB1.out.2).mono ?_
      rintro e w1 ⟨rfl, hb1⟩
      have HO1 := hidU (HO0x.out.later hb1)
      have HG1 := hidU (gm_below HG0x.out hb1)
      clear hb1
      obtain ⟨vt1_1, hvt1_1⟩ := HO1.out.has (j * 2 + 1) (by omega)
      have hft1_1 := HO1.out.free (j * 2 + 1)
      have HO1x : Hid (OwnM (w1.setCell ⟨g, j * 2 + 1, none⟩ (.string (mtS q1))) base 52 2 g n cap k0 (j * 2 + 1 + 1)) := HO1.out.put (by omega) HF1.out
      have HG1x : Hid (w.grownBy (w1.setCell ⟨g, j * 2 + 1, none⟩ (.string (mtS q1))) (some g)) := gm_set HG1.out
      go_wp2
      go_roundg (gk - 1)
      case rel => exact ⟨j1, rfl, by have := HJ.out; omega, by have := HJ.out; have := HQ.out; rw [show q2 = k0 + j1 * 2 from by omega], by have := HO1x.out; rw [show j1 * 2 = j * 2 + 1 + 1 from by have := HJ.out; omega]; exact this, HG1x.out⟩
      case measure => omega
    · have hlti : ¬ (j : Int) < (n : Int) := by omega
      obtain rfl : j = n := by omega
      subst hq
      go_wp2
      go_ret
      exact ⟨rfl, HOr.out, HGr.out⟩
set_option maxRecDepth 100000 in
set_option maxHeartbeats 3200000 in
theorem heldFileS_zeroP (a1 : Option Addr) (c1 k0 : Nat) (w : World) : Calls Try.prog 24 #[.slice a1 0 c1, .int .i64 k0] w fun e w' => e = .returned (.int .i64 k0) ∧ w' = w := by
  go_enter Try.func24, Try.ntmps24
  go_wp2
  go_loopg [1, 5] 1 (fun k q i wr => k = 1 ∧ q = .int .i64 k0 ∧ i = .int .i64 0 ∧ wr = w)
  case atStart => exact ⟨rfl, rfl, rfl, rfl⟩
  case round =>
    obtain ⟨rfl, rfl, rfl, rfl⟩ := hrel
    go_wp2
    go_ret
    exact ⟨rfl, rfl⟩
set_option maxRecDepth 100000 in
set_option maxHeartbeats 3200000 in
theorem heldFileS_rowP (base g n cap k0 : Nat) (w : World) (h1 : OwnM w base 52 2 g n cap k0 (n * 2)) (hn : n ≤ 1048576) (hk0 : 0 < k0) (hk : k0 ≤ 4194304) :
    Calls Try.prog 24 #[.slice (some ⟨g, 0, none⟩) n cap, .int .i64 k0] w fun e w' => e = .returned (.int .i64 ((k0 + n * 2 : Nat) : Int)) ∧ Below w.heap.size w w' := by
  have H1 := hidU h1
  clear h1
  go_enter Try.func24, Try.ntmps24
  go_wp2
  go_loopg [1, 5] n (fun k q i wr => ∃ j : Nat, i = .int .i64 j ∧ j + k = n ∧ q = .int .i64 ((k0 + j * 2 : Nat) : Int) ∧ Below w.heap.size w wr)
  case atStart => exact ⟨0, rfl, by omega, by simp, Below.refl _ _⟩
  case round =>
    obtain ⟨j, rfl, hj, hq, hb⟩ := hrel
    have HB := hidU hb
    clear hb
    by_cases hlt : j < n
    · have hlti : (j : Int) < (n : Int) := by omega
      obtain ⟨q0, hq0⟩ : ∃ q0 : Nat, q0 = k0 + (j * 2) := ⟨_, rfl⟩
      rw [← hq0] at hq
      subst hq
      obtain ⟨q1, hq1⟩ : ∃ q1 : Nat, q1 = q0 + 1 := ⟨_, rfl⟩
      have eq1 : (q0 : Int) + 1 = (q1 : Int) := by omega
      obtain ⟨q2, hq2⟩ : ∃ q2 : Nat, q2 = q1 + 1 := ⟨_, rfl⟩
      have eq2 : (q1 : Int) + 1 = (q2 : Int) := by omega
      have HF0 : Hid (q0 = k0 + (j * 2)) := by show q0 = _; omega
      have HF1 : Hid (q1 = k0 + (j * 2 + 1)) := by show q1 = _; omega
      have HQ : Hid (q2 = k0 + (j * 2 + 2)) := by show q2 = _; omega
      have hqb : q2 ≤ 7000000 := by omega
      have hq0p : 0 < q0 := by omega
      have HQB0 : Hid (0 < q0 ∧ q0 ≤ 8000000) := ⟨by omega, by omega⟩
      have HQB1 : Hid (0 < q1 ∧ q1 ≤ 8000000) := ⟨by omega, by omega⟩
      have HC0 : Hid (wr.cell? ⟨g, j * 2, none⟩ = some (.string (mtS q0))) := (H1.out.later HB.out).cell (j * 2) q0 (by omega) (by omega) HF0.out
      have HC1 : Hid (wr.cell? ⟨g, j * 2 + 1, none⟩ = some (.string (mtS q1))) := (H1.out.later HB.out).cell (j * 2 + 1) q1 (by omega) (by omega) HF1.out
      have hglt := (H1.out.later HB.out).blk.2
      obtain ⟨j1, hj1⟩ : ∃ j1, j1 = j + 1 := ⟨_, rfl⟩
      have ej : (j : Int) + 1 = (j1 : Int) := by omega
      have HJ := hidU hj1
      clear hj1 hq0 hq1 hq2
      have cQ0 : ∀ d os, Calls Try.prog 71 #[.int .i64 (q0 : Int)] (grow (redrawn wr d) os) fun e w'' => e = .returned (.string (mtS q0)) ∧ ∃ p : Regrown, w'' = grow (redrawn wr p.d) p.os := fun d os => Calls.regrown_of (markText_far q0 _ HQB0.out.1 HQB0.out.2)
      go_wp2_with fail
      have kk := cell_regrown HC0.out
      refine wp_region_quiet_below (by kernel_rfl) (by kernel_rfl) ?_
      repeat (go_big_quiet_step (exact cQ0 _ _))
      refine wpQuiet_nil ?_
      intro w0 hw'
      obtain ⟨⟨dq, osq⟩, hw''⟩ := hw'
      have hb0 : Below wr.heap.size wr w0 := by rw [hw'']; exact below_regrown _ _ _
      have HB0 := hidU (HB.out.trans (hb0.mono HB.out.size))
      have HD1 := hidU ((hb0.cell hglt).trans HC1.out)
      have hglt0 := Nat.lt_of_lt_of_le hglt hb0.size
      clear hw'' kk cQ0 hb0 hglt
      have hglt := hglt0
      clear hglt0
      have cQ1 : ∀ d os, Calls Try.prog 71 #[.int .i64 (q1 : Int)] (grow (redrawn w0 d) os) fun e w'' => e = .returned (.string (mtS q1)) ∧ ∃ p : Regrown, w'' = grow (redrawn w0 p.d) p.os := fun d os => Calls.regrown_of (markText_far q1 _ HQB1.out.1 HQB1.out.2)
      go_wp2_with fail
      have kk := cell_regrown HD1.out
      refine wp_region_quiet_below (by kernel_rfl) (by kernel_rfl) ?_
      repeat (go_big_quiet_step (exact cQ1 _ _))
      refine wpQuiet_nil ?_
      intro w1 hw'
      obtain ⟨⟨dq, osq⟩, hw''⟩ := hw'
      have hb1 : Below w0.heap.size w0 w1 := by rw [hw'']; exact below_regrown _ _ _
      have HB1 := hidU (HB0.out.trans (hb1.mono HB0.out.size))
      have hglt1 := Nat.lt_of_lt_of_le hglt hb1.size
      clear hw'' kk cQ1 hb1 hglt
      have hglt := hglt1
      clear hglt1
      go_wp2
      go_roundg (gk - 1)
      case rel => exact ⟨j1, rfl, by have := HJ.out; omega, by have := HJ.out; have := HQ.out; rw [show q2 = k0 + j1 * 2 from by omega], HB1.out⟩
      case measure => omega
    · have hlti : ¬ (j : Int) < (n : Int) := by omega
      obtain rfl : j = n := by omega
      subst hq
      go_wp2
      go_ret
      exact ⟨rfl, HB.out⟩
end Go.Proofs.Ytdbpknmoacjodaa
namespace Go.Proofs.Ytdbpknmoacjodaa
open Go.RowKit Go.PlainAid Go.Sort

structure TextsAt (w : World) (a : Option Addr) (g n : Nat) (X : Nat → ByteArray) : Prop where
  addr : 0 < n → a = some ⟨g, 0, none⟩
  lt : 0 < n → g < w.heap.size
  cell : ∀ j, j < n → w.cell? ⟨g, j, none⟩ = some (.string (X j))
theorem TextsAt.later {w w' : World} {a : Option Addr} {g n : Nat} {X : Nat → ByteArray} (h : TextsAt w a g n X) (hb : Below w.heap.size w w') : TextsAt w' a g n X :=
  ⟨h.addr, fun k => Nat.lt_of_lt_of_le (h.lt k) hb.size, fun j hj => by rw [hb.cell (h.lt (by omega))]; exact h.cell j hj⟩
theorem TextsAt.nil (w : World) (a : Option Addr) (g : Nat) (X : Nat → ByteArray) : TextsAt w a g 0 X := ⟨fun h => absurd h (Nat.lt_irrefl _), fun h => absurd h (Nat.lt_irrefl _), fun j hj => absurd hj (Nat.not_lt_zero j)⟩
theorem ownS_texts {w : World} {base g n cap : Nat} {e : TypeId} {xs : List ByteArray} (h : OwnS w base e g n cap xs) : TextsAt w (some ⟨g, 0, none⟩) g n (fun j => xs.getD j { data := #[] }) :=
  ⟨fun _ => rfl, fun _ => (ownS_blk h).2, fun j hj => ownS_cell h j hj⟩
set_option maxRecDepth 100000 in
set_option maxHeartbeats 3200000 in
theorem eqStringS_plain (a1 a2 : Option Addr) (g1 g2 n c1 c2 : Nat) (X : Nat → ByteArray) (w : World) (h1 : TextsAt w a1 g1 n X) (h2 : TextsAt w a2 g2 n X) (hl : n ≤ 4294967296) :
    Calls Try.prog 61 #[.slice a1 n c1, .slice a2 n c2] w fun e w' => e = .returned (.bool true) ∧ Below w.heap.size w w' := by
  have H1 := hidU h1
  have H2 := hidU h2
  clear h1 h2
  go_enter Try.func61, Try.ntmps61
  go_wp2
  go_loopg [5] n (fun k i wr => ∃ j : Nat, i = .int .i64 j ∧ j + k = n ∧ Below w.heap.size w wr)
  case atStart => exact ⟨0, rfl, by omega, Below.refl _ _⟩
  case round =>
    obtain ⟨j, rfl, hj, hb⟩ := hrel
    have HB := hidU hb
    clear hb
    by_cases hlt : j < n
    · have hlti : (j : Int) < (n : Int) := by omega
      obtain rfl := H1.out.addr (by omega)
      obtain rfl := H2.out.addr (by omega)
      have C0 := hidU ((H1.out.later HB.out).cell j hlt)
      have D0 := hidU ((H2.out.later HB.out).cell j hlt)
      obtain ⟨j1, hj1⟩ : ∃ j1, j1 = j + 1 := ⟨_, rfl⟩
      have ej : (j : Int) + 1 = (j1 : Int) := by omega
      have HJ := hidU hj1
      clear hj1
      go_wp2
      have k0 := cell_regrown C0.out
      have l0 := cell_regrown D0.out
      refine wp_region_quiet_below (by kernel_rfl) (by kernel_rfl) ?_
      repeat (go_big_quiet_step (fail))
      refine wpQuiet_nil ?_
      intro w2 hw'
      obtain ⟨⟨dq, osq⟩, hw''⟩ := hw'
      have HB2 : Hid (Below w.heap.size w w2) := by show Below _ _ _; rw [hw'']; exact HB.out.trans ((below_regrown wr dq osq).mono HB.out.size)
      clear hw'' k0 l0 C0 D0
      go_wp2
      go_roundg (gk - 1)
      case rel => exact ⟨j1, rfl, by have := HJ.out; omega, HB2.out⟩
      case measure => omega
    · have hlti : ¬ (j : Int) < (n : Int) := by omega
      go_wp2
      go_ret
      exact ⟨rfl, HB.out⟩
end Go.Proofs.Ytdbpknmoacjodaa
namespace Go.Proofs.Ytdbpknmoacjodaa
open Go.RowKit Go.PlainAid Go.Sort

def OutS (w : World) (base : Nat) (a : Option Addr) (n cap : Nat) (xs : List ByteArray) : Prop := n = xs.length ∧ (0 < n → ∃ g, a = some ⟨g, 0, none⟩ ∧ OwnS w base 9 g n cap xs)
theorem OutS.own {w : World} {base g n cap : Nat} {xs : List ByteArray} (h : OwnS w base 9 g n cap xs) : OutS w base (some ⟨g, 0, none⟩) n cap xs := ⟨h.2, fun _ => ⟨g, rfl, h⟩⟩
theorem OutS.nil (w : World) (base : Nat) (a : Option Addr) (cap : Nat) : OutS w base a 0 cap [] := ⟨rfl, fun h => absurd h (Nat.lt_irrefl _)⟩
theorem OutS.later {w W : World} {base n cap : Nat} {a : Option Addr} {xs : List ByteArray} (h : OutS w base a n cap xs) (hb : Below w.heap.size w W) : OutS W base a n cap xs :=
  ⟨h.1, fun k => by obtain ⟨g, e, h1⟩ := h.2 k; exact ⟨g, e, ownS_later h1 hb⟩⟩
theorem OutS.texts {w : World} {base n cap : Nat} {a : Option Addr} {xs : List ByteArray} (h : OutS w base a n cap xs) : ∃ g, TextsAt w a g n (fun j => xs.getD j { data := #[] }) := by
  rcases Nat.eq_zero_or_pos n with e | e
  · subst e
    exact ⟨0, TextsAt.nil _ _ _ _⟩
  · obtain ⟨g, rfl, h1⟩ := h.2 e
    exact ⟨g, ownS_texts h1⟩
def Marked (w : World) (base : Nat) (t : TypeId) (size : Nat) (a : Option Addr) (n cap : Nat) : Prop := 0 < n → ∃ g, a = some ⟨g, 0, none⟩ ∧ OwnM w base t size g n cap 1 (n * size)
theorem Marked.later {w W : World} {base size n cap : Nat} {t : TypeId} {a : Option Addr} (h : Marked w base t size a n cap) (hb : Below w.heap.size w W) : Marked W base t size a n cap :=
  fun k => by obtain ⟨g, e, h1⟩ := h k; exact ⟨g, e, h1.later hb⟩
theorem gm_under {w w' : World} {g b : Nat} (h : w.grownBy w' (some g)) (hb : b ≤ g) (hw : b ≤ w.heap.size) : Below b w w' :=
  ⟨h.os, h.tape, h.output, h.size, fun k hk => h.block k (by omega) fun e => by have := Option.some.inj e; omega⟩
def OutF (w : World) (base : Nat) (a : Option Addr) (n cap : Nat) (fs : List Fl) : Prop := n = fs.length ∧ (0 < n → ∃ g, a = some ⟨g, 0, none⟩ ∧ OwnFl w base 52 g n cap fs)
theorem OutF.own {w : World} {base g n cap : Nat} {fs : List Fl} (h : OwnFl w base 52 g n cap fs) : OutF w base (some ⟨g, 0, none⟩) n cap fs := ⟨h.2, fun _ => ⟨g, rfl, h⟩⟩
theorem OutF.nil (w : World) (base : Nat) (a : Option Addr) (cap : Nat) : OutF w base a 0 cap [] := ⟨rfl, fun h => absurd h (Nat.lt_irrefl _)⟩
theorem OutF.later {w W : World} {base n cap : Nat} {a : Option Addr} {fs : List Fl} (h : OutF w base a n cap fs) (hb : Below w.heap.size w W) : OutF W base a n cap fs :=
  ⟨h.1, fun k => by obtain ⟨g, e, h1⟩ := h.2 k; exact ⟨g, e, ownFl_later h1 hb⟩⟩
theorem files_nil (w : World) (a : Option Addr) (b off : Nat) (Pt Tx : Nat → ByteArray) : FilesAt w a b off 0 Pt Tx := ⟨fun h => absurd h (Nat.lt_irrefl _), fun h => absurd h (Nat.lt_irrefl _), fun j hj => absurd hj (Nat.not_lt_zero j), fun j hj => absurd hj (Nat.not_lt_zero j)⟩
theorem OutF.files {w : World} {base n cap : Nat} {a : Option Addr} {fs : List Fl} (h : OutF w base a n cap fs) : ∃ g, FilesAt w a g 0 n (ptOf fs) (txOf fs) := by
  rcases Nat.eq_zero_or_pos n with e | e
  · subst e
    exact ⟨0, files_nil _ _ _ _ _ _⟩
  · obtain ⟨g, rfl, h1⟩ := h.2 e
    exact ⟨g, ownFl_files h1⟩
theorem markF_out (w : World) (base : Nat) (a : Option Addr) (n cap : Nat) (fs : List Fl) (h : OutF w base a n cap fs) (hw : base ≤ w.heap.size) (hn : n ≤ 1048576) :
    Calls Try.prog 23 #[.slice a n cap, .int .i64 1] w fun e w' => e = .returned (.int .i64 ((1 + n * 2 : Nat) : Int)) ∧ Marked w' base 52 2 a n cap ∧ Below base w w' := by
  rcases Nat.eq_zero_or_pos n with e | e
  · subst e
    refine (markFileS_zeroP a cap 1 w).mono ?_
    rintro e w1 ⟨rfl, rfl⟩
    exact ⟨rfl, fun k => absurd k (Nat.lt_irrefl _), Below.refl _ _⟩
  · obtain ⟨g, rfl, h1⟩ := h.2 e
    refine (markFileS_rowP base g n cap 1 w (OwnM.start h1.1 1) hn (by omega) (by omega)).mono ?_
    rintro e w1 ⟨rfl, h2, h3⟩
    exact ⟨rfl, fun _ => ⟨g, rfl, h2⟩, gm_under h3 (ownFl_blk h1).1 hw⟩
theorem heldF_out (w : World) (base : Nat) (a : Option Addr) (n cap : Nat) (h : Marked w base 52 2 a n cap) (hn : n ≤ 1048576) :
    Calls Try.prog 24 #[.slice a n cap, .int .i64 1] w fun e w' => e = .returned (.int .i64 ((1 + n * 2 : Nat) : Int)) ∧ Below w.heap.size w w' := by
  rcases Nat.eq_zero_or_pos n with e | e
  · subst e
    refine (heldFileS_zeroP a cap 1 w).mono ?_
    rintro e w1 ⟨rfl, rfl⟩
    exact ⟨rfl, Below.refl _ _⟩
  · obtain ⟨g, rfl, h1⟩ := h e
    exact heldFileS_rowP base g n cap 1 w h1 hn (by omega) (by omega)
theorem OutS.aside {w w' : World} {base n cap x : Nat} {a : Option Addr} {xs : List ByteArray} (h : OutS w base a n cap xs) (hg : w.grownBy w' (some x)) (hx : x < base) : OutS w' base a n cap xs :=
  ⟨h.1, fun k => by
    obtain ⟨g, e, h1⟩ := h.2 k
    have hk := ownS_blk h1
    exact ⟨g, e, ownS_keep h1 (hg.block g hk.2 (fun e' => by have := Option.some.inj e'; omega))⟩⟩
theorem OutF.aside {w w' : World} {base n cap x : Nat} {a : Option Addr} {fs : List Fl} (h : OutF w base a n cap fs) (hg : w.grownBy w' (some x)) (hx : x < base) : OutF w' base a n cap fs :=
  ⟨h.1, fun k => by
    obtain ⟨g, e, h1⟩ := h.2 k
    have hk := ownFl_blk h1
    exact ⟨g, e, ownFl_keep h1 (hg.block g hk.2 (fun e' => by have := Option.some.inj e'; omega))⟩⟩
theorem ownF_blk {w : World} {base g len : Nat} {e : TypeId} {Pt Tx : Nat → ByteArray} (h : OwnF w base e g len len Pt Tx) : base ≤ g ∧ g < w.heap.size := by
  obtain ⟨xs, h1, _⟩ := h
  exact (OwnM.start h1 1).blk
theorem markF_arg (w : World) (base g len : Nat) (Pt Tx : Nat → ByteArray) (h : OwnF w base 52 g len len Pt Tx) (hn : len ≤ 1048576) :
    Calls Try.prog 23 #[.slice (some ⟨g, 0, none⟩) len len, .int .i64 1] w fun e w' => e = .returned (.int .i64 ((1 + len * 2 : Nat) : Int)) ∧ w.grownBy w' (some g) := by
  obtain ⟨xs, h1, _⟩ := h
  refine (markFileS_rowP base g len len 1 w (OwnM.start h1 1) hn (by omega) (by omega)).mono ?_
  rintro e w1 ⟨rfl, _, h3⟩
  exact ⟨rfl, h3⟩
theorem markF_argK (k0 : Nat) (w : World) (base g len : Nat) (Pt Tx : Nat → ByteArray) (h : OwnF w base 52 g len len Pt Tx) (hn : len ≤ 1048576) (hk0 : 0 < k0) (hk : k0 ≤ 4194304) :
    Calls Try.prog 23 #[.slice (some ⟨g, 0, none⟩) len len, .int .i64 (k0 : Int)] w fun e w' => e = .returned (.int .i64 ((k0 + len * 2 : Nat) : Int)) ∧ w.grownBy w' (some g) := by
  obtain ⟨xs, h1, _⟩ := h
  refine (markFileS_rowP base g len len k0 w (OwnM.start h1 k0) hn hk0 hk).mono ?_
  rintro e w1 ⟨rfl, _, h3⟩
  exact ⟨rfl, h3⟩
theorem OwnF.asideF {w w' : World} {base g len x : Nat} {e : TypeId} {Pt Tx : Nat → ByteArray} (h : OwnF w base e g len len Pt Tx) (hg : w.grownBy w' (some x)) (hx : x < base) : OwnF w' base e g len len Pt Tx := by
  have hk := ownF_blk h
  obtain ⟨xs, h1, h2⟩ := h
  refine ⟨xs, ⟨h1.1, ?_⟩, h2⟩
  rcases h1.2 with ⟨h', _⟩ | ⟨g', cap', cur, h', hbs, hgg, hr⟩
  · simp at h'
  · simp only [Value.slice.injEq, Option.some.injEq, Addr.mk.injEq, and_true, true_and] at h'
    obtain ⟨rfl, rfl⟩ := h'
    exact .inr ⟨g, len, cur, rfl, hbs, (hg.block g hk.2 (fun e' => by have := Option.some.inj e'; omega)).trans hgg, hr⟩
end Go.Proofs.Ytdbpknmoacjodaa
namespace Go.Proofs.Ytdbpknmoacjodaa
open Go.RowKit Go.PlainAid

theorem big_any (a : Option Addr) (len cap : Nat) (w : World) (_ : len ≤ 9223372036854775807) :
    Calls Try.prog 27 #[.slice a len cap] w fun e w' => e = .returned (.bool (decide ((1048576 : Int) < len))) ∧ w' = w := by
  go_enter Try.func27, Try.ntmps27
  go_wp2
  go_ret
  exact ⟨rfl, rfl⟩
end Go.Proofs.Ytdbpknmoacjodaa
