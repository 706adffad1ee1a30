/-
  What the helpers of the laws over tokens answer: the walks.
-/
import Derived.Test.YtcmpakdfebeklaaTokMem
import Derived.Test.YtcmpakdfebeklaaProg
import Derived.WalkLawsBesides
import Derived.Lib.QuietBelow
import Derived.BigQuiet
namespace Go.Proofs.Ytcmpakdfebeklaa
open Go.RowKit Go.PlainAid Go.Sort

structure TokAt (w : World) (a : Option Addr) (g n : Nat) (ts : Nat → Tk) : Prop where
  addr : 0 < n → a = some ⟨g, 0, none⟩
  lt : 0 < n → g < w.heap.size
  c0 : ∀ j, j < n → w.cell? ⟨g, j * 4, none⟩ = some (.int .i64 (ts j).kind)
  c1 : ∀ j, j < n → w.cell? ⟨g, j * 4 + 1, none⟩ = some (.string (ts j).text)
  c2 : ∀ j, j < n → w.cell? ⟨g, j * 4 + 2, none⟩ = some (.int .i64 (ts j).num)
  c3 : ∀ j, j < n → w.cell? ⟨g, j * 4 + 3, none⟩ = some (.int .i64 (ts j).pos)
theorem TokAt.later {w w' : World} {a : Option Addr} {g n : Nat} {ts : Nat → Tk} (h : TokAt w a g n ts) (hb : Below w.heap.size w w') : TokAt w' a g n ts :=
  ⟨h.addr, fun k => Nat.lt_of_lt_of_le (h.lt k) hb.size, fun j hj => by rw [hb.cell (h.lt (by omega))]; exact h.c0 j hj, fun j hj => by rw [hb.cell (h.lt (by omega))]; exact h.c1 j hj,
    fun j hj => by rw [hb.cell (h.lt (by omega))]; exact h.c2 j hj, fun j hj => by rw [hb.cell (h.lt (by omega))]; exact h.c3 j hj⟩

theorem eqToken_any (k : Int) (x : ByteArray) (m p : Int) (w : World) :
    Calls Try.prog 31 #[.agg #[.int .i64 k, .string x, .int .i64 m, .int .i64 p], .agg #[.int .i64 k, .string x, .int .i64 m, .int .i64 p]] w fun e w' => e = .returned (.bool true) ∧ Below w.heap.size w w' := by
  go_enter Try.func31, Try.ntmps31
  go_wp2
  go_ret
  exact ⟨rfl, ((Below.refl _ _).alloc (Nat.le_refl _) _).alloc (by show _ ≤ (w.heap.push _).size; simp) _⟩

set_option maxHeartbeats 1600000 in
theorem eqTokenS_any (a1 a2 : Option Addr) (g1 g2 n cap1 cap2 : Nat) (ts : Nat → Tk) (w : World) (hf : TokAt w a1 g1 n ts) (hg : TokAt w a2 g2 n ts) (hn : n ≤ 4000) :
    Calls Try.prog 8 #[.slice a1 n cap1, .slice a2 n cap2] w fun e w' => e = .returned (.bool true) ∧ Below w.heap.size w w' := by
  go_enter Try.func8, Try.ntmps8
  go_wp2
  go_loopw [5] (fun i wr => ∃ k : Nat, k ≤ n ∧ i = .int .i64 k ∧ Below w.heap.size w wr) (fun i _ => (n - intOf i).toNat)
  case atStart => exact ⟨0, by omega, rfl, Below.refl _ _⟩
  case round =>
    obtain ⟨k, hk, rfl, hb⟩ := hrel
    by_cases hlt : k < n
    · obtain rfl := hf.addr (by omega)
      obtain rfl := hg.addr (by omega)
      have hf' := hf.later hb
      have hg' := hg.later hb
      have C0 : Hid (_ = _) := hf'.c0 k hlt
      have C1 : Hid (_ = _) := hf'.c1 k hlt
      have C2 : Hid (_ = _) := hf'.c2 k hlt
      have C3 : Hid (_ = _) := hf'.c3 k hlt
      have D0 : Hid (_ = _) := hg'.c0 k hlt
      have D1 : Hid (_ = _) := hg'.c1 k hlt
      have D2 : Hid (_ = _) := hg'.c2 k hlt
      have D3 : Hid (_ = _) := hg'.c3 k hlt
      have cQ : ∀ d os, Calls Try.prog 31 #[.agg #[.int .i64 (ts k).kind, .string (ts k).text, .int .i64 (ts k).num, .int .i64 (ts k).pos], .agg #[.int .i64 (ts k).kind, .string (ts k).text, .int .i64 (ts k).num, .int .i64 (ts k).pos]] (grow (redrawn wr d) os) fun e w'' => e = .returned (.bool true) ∧ ∃ p : Regrown, w'' = grow (redrawn wr p.d) p.os :=
        fun d os => Calls.regrown_of (eqToken_any _ _ _ _ _)
      clear hf' hg'
      go_wp2
      have k0 := cell_regrown C0.out
      have k1 := cell_regrown C1.out
      have k2 := cell_regrown C2.out
      have k3 := cell_regrown C3.out
      have k4 := cell_regrown D0.out
      have k5 := cell_regrown D1.out
      have k6 := cell_regrown D2.out
      have k7 := cell_regrown D3.out
      refine wp_region_quiet_below (by kernel_rfl) (by kernel_rfl) ?_
      repeat (go_big_quiet_step (exact cQ _ _))
      refine wpQuiet_nil ?_
      intro _ hw'
      obtain ⟨⟨dq, osq⟩, hw''⟩ := hw'
      subst hw''
      have hbE := hb.trans ((below_regrown wr dq osq).mono hb.size)
      go_wp2
      go_roundw
      case rel => exact ⟨k + 1, by omega, by go_num, hbE⟩
      case measure => simp [intOf]; omega
    · go_wp2
      go_ret
      exact ⟨rfl, hb⟩

def mdig : Nat → Nat → ByteArray → ByteArray
  | 0, _, o => o
  | f + 1, k, o => if k = 0 then o else mdig f (k / 10) (strOfNums [48 + (k : Int) % 10] ++ o)
def mtS (k : Nat) : ByteArray := { data := #[109] } ++ mdig k k { data := #[] }
theorem mdig_zero (f : Nat) (o : ByteArray) : mdig f 0 o = o := by cases f <;> rfl
theorem mdig_step {f k : Nat} {o : ByteArray} (h : k ≤ f) (hk : 0 < k) : ∃ f', k / 10 ≤ f' ∧ mdig f k o = mdig f' (k / 10) (strOfNums [48 + (k : Int) % 10] ++ o) := by
  match f, h with
  | 0, h => omega
  | f + 1, h => exact ⟨f, by omega, by rw [mdig, if_neg (by omega)]⟩
set_option maxHeartbeats 1600000 in
theorem markText_any (k0 : Nat) (w : World) (h0 : 0 < k0) (h1 : k0 ≤ 100000) :
    Calls Try.prog 32 #[.int .i64 k0] w fun e w' => e = .returned (.string (mtS k0)) ∧ Below w.heap.size w w' := by
  go_enter Try.func32, Try.ntmps32
  go_wp2
  go_loopw [0, 3] (fun i o wr => ∃ (k f m : Nat) (x : ByteArray), i = .int .i64 k ∧ o = .string x ∧ k ≤ f ∧ k ≤ 100000 ∧ mdig f k x = mdig k0 k0 { data := #[] } ∧ x.size ≤ m ∧ k + m ≤ 100000 ∧ Below w.heap.size w wr) (fun i _ _ => (intOf i).toNat)
  case atStart => exact ⟨k0, k0, 0, _, rfl, rfl, Nat.le_refl _, h1, rfl, Nat.le_refl _, by omega, Below.refl _ _⟩
  case round =>
    obtain ⟨k, f, m, x, rfl, rfl, hkf, hk1, hd, hx, hxm, hb⟩ := hrel
    have HD : Hid (mdig f k x = mdig k0 k0 { data := #[] }) := hd
    clear hd
    by_cases hk : 0 < k
    · obtain ⟨f', hf', hst⟩ := mdig_step (o := x) hkf hk
      have HN : Hid (mdig f' (k / 10) (strOfNums [48 + (k : Int) % 10] ++ x) = mdig k0 k0 { data := #[] }) := hst.symm.trans HD.out
      have hst := fun (w : World) (x : Int) => run_string_one (P := Try.prog) (src := 28) (dst := 9) Try.underlying28 Try.underlying5 Try.underlying9 w x
      have hone := fun x => strOfNums_size [x]
      have hdv : k / 10 + 1 ≤ k := by omega
      go_wp2
      go_roundw
      case rel => exact ⟨k / 10, f', m + 1, _, by go_num, rfl, hf', by omega, HN.out, by rw [ByteArray.size_append, hone]; simp; omega, by omega, hb.alloc hb.size _⟩
      case measure => simp [intOf]; omega
    · obtain rfl : k = 0 := by omega
      have HE : Hid (x = mdig k0 k0 { data := #[] }) := by have := HD.out; rw [mdig_zero] at this; exact this
      go_wp2
      go_ret
      exact ⟨ret_str (by rw [HE.out]; rfl), hb⟩

def OwnM (w : World) (base : Nat) (e : TypeId) (g n cap k : Nat) : Prop :=
  ∃ xs, w.ownsRow base e 4 (.slice (some ⟨g, 0, none⟩) n cap) n xs ∧ ∀ j, j < k → xs[j * 4]? = some (.int .i64 (1 + 4 * (j : Int))) ∧ xs[j * 4 + 1]? = some (.string (mtS (2 + 4 * j))) ∧ xs[j * 4 + 2]? = some (.int .i64 (3 + 4 * (j : Int))) ∧ xs[j * 4 + 3]? = some (.int .i64 (4 + 4 * (j : Int)))
theorem OwnM.has {w : World} {base g n cap k : Nat} {e : TypeId} (h : OwnM w base e g n cap k) (j : Nat) (hj : j < n * 4) : ∃ v, w.cell? ⟨g, j, none⟩ = some v := by
  obtain ⟨xs, h1, _⟩ := h
  have hl := h1.1
  rw [h1.cellAt j hj]
  exact ⟨_, List.getElem?_eq_getElem (by omega)⟩
theorem OwnM.free {w : World} {base g n cap k : Nat} {e : TypeId} (h : OwnM w base e g n cap k) (j : Nat) : w.frozen? ⟨g, j, none⟩ = false := by
  obtain ⟨xs, h1, _⟩ := h
  exact h1.frozenAt j
theorem OwnM.lt {w : World} {base g n cap k : Nat} {e : TypeId} (h : OwnM w base e g n cap k) : g < w.heap.size ∧ base ≤ g := by
  obtain ⟨xs, h1, _⟩ := h
  rcases h1.2 with ⟨h', _⟩ | ⟨g', cap', cur, h', hb, hg, _⟩
  · simp at h'
  · simp only [Value.slice.injEq, Option.some.injEq, Addr.mk.injEq, and_true, true_and] at h'
    obtain ⟨rfl, rfl⟩ := h'
    exact ⟨(Array.getElem?_eq_some_iff.1 hg).1, hb⟩
theorem OwnM.later {w w' : World} {base g n cap k : Nat} {e : TypeId} (h : OwnM w base e g n cap k) (hb : Below w.heap.size w w') : OwnM w' base e g n cap k := by
  have hlt := h.lt.1
  obtain ⟨xs, h1, h2⟩ := h
  refine ⟨xs, ⟨h1.1, ?_⟩, h2⟩
  rcases h1.2 with k | ⟨g', cap', cur, hv, hbase, hg, hr⟩
  · exact .inl k
  · simp only [Value.slice.injEq, Option.some.injEq, Addr.mk.injEq, and_true, true_and] at hv
    obtain ⟨rfl, rfl⟩ := hv
    exact .inr ⟨g, cap, cur, rfl, hbase, (hb.block g hlt).trans hg, hr⟩
theorem OwnM.put {w : World} {base g n cap k : Nat} {e : TypeId} (h : OwnM w base e g n cap k) (i : Nat) (hi : k * 4 ≤ i) (v : Value) : OwnM (w.setCell ⟨g, i, none⟩ v) base e g n cap k := by
  obtain ⟨xs, h1, h2⟩ := h
  refine ⟨_, (h1.stored i v).1, fun j hj => ?_⟩
  have h3 := h2 j hj
  rw [List.getElem?_set, if_neg (by omega), List.getElem?_set, if_neg (by omega), List.getElem?_set, if_neg (by omega), List.getElem?_set, if_neg (by omega)]
  exact h3
theorem OwnM.next {w : World} {base g n cap k : Nat} {e : TypeId} (h : OwnM w base e g n cap k) (hk : k < n)
    (c0 : w.cell? ⟨g, k * 4, none⟩ = some (.int .i64 (1 + 4 * (k : Int)))) (c1 : w.cell? ⟨g, k * 4 + 1, none⟩ = some (.string (mtS (2 + 4 * k)))) (c2 : w.cell? ⟨g, k * 4 + 2, none⟩ = some (.int .i64 (3 + 4 * (k : Int)))) (c3 : w.cell? ⟨g, k * 4 + 3, none⟩ = some (.int .i64 (4 + 4 * (k : Int)))) :
    OwnM w base e g n cap (k + 1) := by
  obtain ⟨xs, h1, h2⟩ := h
  refine ⟨xs, h1, fun j hj => ?_⟩
  by_cases e : j = k
  · subst e
    rw [h1.cellAt _ (by omega)] at c0 c1 c2 c3
    exact ⟨c0, c1, c2, c3⟩
  · exact h2 j (by omega)
theorem OwnT.mark {w : World} {base g n cap : Nat} {e : TypeId} {ts : List Tk} (h : OwnT w base e g n cap ts) : OwnM w base e g n cap 0 := ⟨_, h.1, fun j hj => absurd hj (Nat.not_lt_zero j)⟩

theorem markText_at (k : Nat) (w : World) (h : k ≤ 4000) : Calls Try.prog 32 #[.int .i64 (2 + 4 * (k : Int))] w fun e w' => e = .returned (.string (mtS (2 + 4 * k))) ∧ Below w.heap.size w w' := by
  have := markText_any (2 + 4 * k) w (by omega) (by omega)
  rw [show ((2 + 4 * k : Nat) : Int) = 2 + 4 * (k : Int) from by omega] at this
  exact this
end Go.Proofs.Ytcmpakdfebeklaa
