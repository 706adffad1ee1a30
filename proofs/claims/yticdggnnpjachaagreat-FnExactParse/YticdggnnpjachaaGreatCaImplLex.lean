/-
  What impl.Lex answers: the walk.
-/
import Derived.Test.YticdggnnpjachaaGreatCaImplLexB
import Derived.Test.YticdggnnpjachaaGreatCaSpecLexAll
import Derived.Test.YticdggnnpjachaaGreatCaLabels
import Derived.Maps.AppendAt
namespace Go.Proofs.YticdggnnpjachaaGreat
open Go.RowKit Go.PlainAid

def TC (w : World) (g : Nat) (k : Int) (x : ByteArray) (y u : Int) : Prop := w.heap[g]? = some (.cells #[.int .i64 k, .string x, .int .i64 y, .int .i64 u] 111 (0, 0))
theorem TC.cells {w : World} {g : Nat} {k y u : Int} {x : ByteArray} (h : TC w g k x y u) :
    w.cell? ⟨g, 0, none⟩ = some (.int .i64 k) ∧ w.cell? ⟨g, 1, none⟩ = some (.string x) ∧ w.cell? ⟨g, 2, none⟩ = some (.int .i64 y) ∧ w.cell? ⟨g, 3, none⟩ = some (.int .i64 u)
    ∧ w.frozen? ⟨g, 0, none⟩ = false ∧ w.frozen? ⟨g, 1, none⟩ = false ∧ w.frozen? ⟨g, 2, none⟩ = false ∧ w.frozen? ⟨g, 3, none⟩ = false := by
  unfold TC at h
  simp [World.cell?, World.frozen?, h]
theorem TC.lt {w : World} {g : Nat} {k y u : Int} {x : ByteArray} (h : TC w g k x y u) : g < w.heap.size := (Array.getElem?_eq_some_iff.1 h).1
theorem TC.later {w w' : World} {g : Nat} {k y u : Int} {x : ByteArray} (h : TC w g k x y u) (hb : Below w.heap.size w w') : TC w' g k x y u := (hb.block g h.lt).trans h
theorem TC.put {w : World} {g : Nat} {k y u k' y' u' : Int} {x x' : ByteArray} (h : TC w g k x y u) :
    TC ((((w.setCell ⟨g, 0, none⟩ (.int .i64 k')).setCell ⟨g, 1, none⟩ (.string x')).setCell ⟨g, 2, none⟩ (.int .i64 y')).setCell ⟨g, 3, none⟩ (.int .i64 u')) g k' x' y' u' := put_four h
theorem ownT_put {w : World} {base g n cap gt : Nat} {e : TypeId} {ts : List Tk} (h : OwnT w base e g n cap ts) (hne : g ≠ gt) (i : Nat) (v : Value) : OwnT (w.setCell ⟨gt, i, none⟩ v) base e g n cap ts := by
  refine ⟨⟨h.1.1, ?_⟩, h.2⟩
  rcases h.1.2 with k | ⟨g', cap', cur, hv, hbase, hg, hr⟩
  · exact .inl k
  · simp only [Value.slice.injEq, Option.some.injEq, Addr.mk.injEq, and_true, true_and] at hv
    obtain ⟨rfl, rfl⟩ := hv
    exact .inr ⟨g, cap, cur, rfl, hbase, (Below.heap_setCell _ _ _ _ hne).trans hg, hr⟩
theorem ownT_four {w : World} {base g n cap gt : Nat} {e : TypeId} {ts : List Tk} (h : OwnT w base e g n cap ts) (hne : g ≠ gt) (v0 v1 v2 v3 : Value) : OwnT ((((w.setCell ⟨gt, 0, none⟩ v0).setCell ⟨gt, 1, none⟩ v1).setCell ⟨gt, 2, none⟩ v2).setCell ⟨gt, 3, none⟩ v3) base e g n cap ts :=
  ownT_put (ownT_put (ownT_put (ownT_put h hne _ _) hne _ _) hne _ _) hne _ _
theorem below_four {w W : World} {B gt : Nat} (h : Below B w W) (hg : B ≤ gt) (v0 v1 v2 v3 : Value) : Below B w ((((W.setCell ⟨gt, 0, none⟩ v0).setCell ⟨gt, 1, none⟩ v1).setCell ⟨gt, 2, none⟩ v2).setCell ⟨gt, 3, none⟩ v3) :=
  (((h.setCell hg _).setCell hg _).setCell hg _).setCell hg _

theorem app_tok_at {P : Program} (w : World) {ops : Array Oper} {rest : List Oper} {o : Oper} {a : Act} {Q : Exit → Act → World → Prop} (hgd : o.guard = none) (s x : Operand) (t : TypeId)
    (ho : o.op = .call { callee := .builtin .append, args := #[s, x], argTypes := #[t, t] })
    (base : Nat) (e : TypeId) (i : TypeInfo) (z : Value) (ht : P.underlying t = some (.slice e)) (hi : P.info? e = some i) (hz : i.zero = some z) (hsize : i.size = 4) (hby : i.bytes = 40) (hzs : z.cells.size = 4)
    (g n cap : Nat) (ts : List Tk) (hs : a.eval s = .slice (some ⟨g, 0, none⟩) n cap) (hown : OwnT w base e g n cap ts)
    (b : Tk) (gx : Nat) (hgx : gx = w.heap.size) (hx : a.eval x = .slice (some ⟨gx, 0, none⟩) 1 1) (hn : n + 1 ≤ 1000000) (hbase : base ≤ w.heap.size)
    (h : ∀ g' cap' w', OwnT w' base e g' (n + 1) cap' (ts ++ [b]) → Below base w w' → (g' = g ∨ w.heap.size ≤ g') → (∀ k, k < w.heap.size → k ≠ g → w'.heap[k]? = w.heap[k]?) → wpList P ops Q rest (a.put o.dst (.slice (some ⟨g', 0, none⟩) (n + 1) cap')) w') :
    wpList P ops Q (o :: rest) a (w.alloc (.cells #[.int .i64 b.kind, .string b.text, .int .i64 b.num, .int .i64 b.pos] e)) := by
  subst hgx
  refine wpList_append_own_at _ hgd s x t ho base e i z 4 40 ht hi hz hsize hby hzs (by decide) _ n _ hs (hown.1.alloc _) ⟨w.heap.size, 0, none⟩ 1 1 (tkL b) hx rfl ?_ ?_ ?_ ?_ ?_ ?_
  · intro j u hj
    match j, hj with
    | 0, hj => simp [tkL] at hj; subst hj; simp [Addr.add]
    | 1, hj => simp [tkL] at hj; subst hj; simp [Addr.add]
    | 2, hj => simp [tkL] at hj; subst hj; simp [Addr.add]
    | 3, hj => simp [tkL] at hj; subst hj; simp [Addr.add]
    | j + 4, hj => simp [tkL] at hj
  · intro u hu
    simp [tkL] at hu
    rcases hu with rfl | rfl | rfl | rfl <;> rfl
  · unfold maxLen; omega
  · omega
  · simp; omega
  · intro v' w' h1 h2 h3 h4
    have hb : Below base w w' := ((Below.refl base w).alloc hbase _).grown h2 (by simp; omega) (own_block_ge hown.1)
    rcases h1.2 with ⟨hv, _⟩ | ⟨g', cap', cur, rfl, hrest⟩
    · have := (h3.1 hv).1
      simp at this
    · refine h g' cap' w' ⟨?_, by rw [List.length_append]; have := hown.2; simp; omega⟩ hb ?_ ?_
      · rw [List.flatMap_append]
        simpa using h1
      · rcases h4 with q | q
        · left
          simpa [Value.ownBlock] using q
        · right
          have : g' = w.heap.size + 1 := by simpa [Value.ownBlock] using q
          omega
      · intro k hk hne
        rw [h2.block k (by simp; omega) (by simpa [Value.ownBlock] using hne), Below.heap_alloc _ _ _ hk]

def LexAt (s : ByteArray) (scr : Bool) (k e n : Nat) (ts : List Tk) (kd : Int) (tx : ByteArray) (nm ps : Int) : Nat → Prop
  | 0 => ∀ b, Skip s k b → ∀ r, Lx s scr b n r → LexR s scr (r.map (ts ++ ·))
  | 1 => k < s.size ∧ (∀ r, Lx s scr k n r → LexR s scr (r.map (ts ++ ·))) ∧ digB (bt s k) = true
  | 2 => k < s.size ∧ (∀ r, Lx s scr k n r → LexR s scr (r.map (ts ++ ·))) ∧ letB (bt s k) scr = true
  | 3 => k < s.size ∧ (∀ r, Lx s scr k n r → LexR s scr (r.map (ts ++ ·))) ∧ bt s k = 34
  | 4 => k < s.size ∧ (∀ r, Lx s scr k n r → LexR s scr (r.map (ts ++ ·))) ∧ Sign (bt s k)
  | 5 => k < s.size ∧ (∀ r, Lx s scr k n r → LexR s scr (r.map (ts ++ ·))) ∧ ((∃ t : Tk, kd = t.kind ∧ tx = t.text ∧ nm = t.num ∧ ps = t.pos ∧ Tok s scr k t e) ∨ (e = k ∧ ∀ t m, ¬ Tok s scr k t m))
  | _ => False
def lexF (s : ByteArray) (scr : Bool) (gt k e n g cap : Nat) (us : Nat → Value) : Act := { tmps := #[.string s, .bool scr, undef, undef, .slice none 0 0, .int .i64 0, .slice (some ⟨g, 0, none⟩) n cap, .pointer (some ⟨gt, 0, none⟩), .int .i64 k, .int .i64 e, us 10, us 11, us 12, us 13, us 14, us 15, us 16, us 17, us 18, us 19, us 20, us 21, us 22, us 23, us 24, us 25, us 26, us 27, us 28, us 29, us 30, us 31, us 32, us 33, us 34, us 35, us 36, us 37, us 38, us 39, us 40, us 41, us 42, us 43, us 44, us 45, us 46, us 47, us 48, us 49, us 50, us 51, us 52, us 53, us 54, us 55, us 56, us 57, us 58, us 59, us 60, us 61, us 62, us 63, us 64, us 65, us 66, us 67, us 68, us 69, us 70, us 71, us 72, us 73, us 74, us 75, us 76, us 77, us 78, us 79, us 80, us 81, us 82, us 83, us 84, us 85, us 86, us 87, us 88, us 89, us 90, us 91, us 92, us 93, us 94, us 95, us 96, us 97, us 98, us 99, us 100, us 101], defers := [] }
theorem lexF_of {a : Act} {s : ByteArray} {scr : Bool} {gt k e n g cap : Nat} (h : a = lexF s scr gt k e n g cap (fun i => a.tmps.getD i undef)) : ∃ us, a = lexF s scr gt k e n g cap us := ⟨_, h⟩
def LexJ (s : ByteArray) (scr : Bool) (w : World) (l : Nat) (a : Act) (wr : World) : Prop :=
  ∃ (k e n g cap : Nat) (kd : Int) (tx : ByteArray) (nm ps : Int) (ts : List Tk), (∃ us, a = lexF s scr (w.heap.size + 1) k e n g cap us)
    ∧ k ≤ s.size ∧ n ≤ 4000 ∧ g ≠ w.heap.size + 1 ∧ OwnT wr w.heap.size 111 g n cap ts ∧ TC wr (w.heap.size + 1) kd tx nm ps ∧ Below w.heap.size w wr ∧ LexAt s scr k e n ts kd tx nm ps l
def lexRank : Nat → Nat
  | 0 => 2
  | 5 => 0
  | _ => 1
def lexMu (s : ByteArray) (l : Nat) (a : Act) (_ : World) : Nat := 3 * ((s.size : Int) - intOf (a.tmps.getD 8 undef)).toNat + lexRank l

def LexOutI (s : ByteArray) (scr : Bool) (w : World) (e : Ending) (w' : World) : Prop :=
  ∃ r, LexR s scr r ∧ match r with
    | .ok ts => ∃ g n cap, e = .returned (.tuple #[.slice (some ⟨g, 0, none⟩) n cap, .int .i64 (-1)]) ∧ OwnT w' w.heap.size 111 g n cap ts
    | .error p => e = .returned (.tuple #[.slice none 0 0, .int .i64 p])


set_option maxRecDepth 1000000 in
set_option maxHeartbeats 12800000 in
theorem lex_impl (s : ByteArray) (scr : Bool) (w : World) (hs : s.size ≤ 4294967296) :
    Calls Tryz.prog 22 #[.string s, .bool scr] w fun e w' => LexOutI s scr w e w' ∧ Below w.heap.size w w' := by
  obtain ⟨i0, hi, hz0, hz1, hz2⟩ := info_parts Tryz.infoTok
  have hb := get_bt s
  go_enter Tryz.func22, Tryz.ntmps22
  go_wp2
  refine wp_scope_labels (LexJ s scr w) (lexMu s) ?_ ?_
  · intro l a' wr hJ IH
    obtain ⟨k, e, n, g, cap, kd, tx, nm, ps, ts, ⟨us, rfl⟩, hk, hn, hg, hown, htc, hbel, hat⟩ := hJ
    have hsz := hbel.size
    have hb0 := bt_nonneg s k
    have hb1 := bt_le s k
    obtain rfl | rfl | rfl | rfl | rfl | rfl | hl6 : l = 0 ∨ l = 1 ∨ l = 2 ∨ l = 3 ∨ l = 4 ∨ l = 5 ∨ 6 ≤ l := by omega
    · have HAT : Hid (∀ b, Skip s k b → ∀ r, Lx s scr b n r → LexR s scr (r.map (ts ++ ·))) := hat
      clear hat IH
      refine ⟨_, rfl, ?_⟩
      unfold lexF
      by_cases hend : k = s.size
      · have HE : Hid (LexR s scr (.ok ts)) := lex_done (HAT.out s.size (by rw [hend]; exact .done)) rfl
        have q : ((k : Int) == (s.size : Int)) = true := beq_iff_eq.2 (by omega)
        clear hend
        go_wp2
        simp only [Leaves]
        go_ret2
        exact ⟨⟨_, HE.out, g, n, cap, rfl, hown⟩, hbel⟩
      · have hlt : k < s.size := by omega
        have q : ((k : Int) == (s.size : Int)) = false := beq_eq_false_iff_ne.2 (by omega)
        clear hend
        cases hbl : blankB (bt s k) with
        | true =>
          have HX : Hid (∀ b, Skip s (k + 1) b → ∀ r, Lx s scr b n r → LexR s scr (r.map (ts ++ ·))) := fun b hb => HAT.out b (.blank hlt (of_decide_eq_true hbl) hb)
          go_wp2_with fail
          refine (blanks_any _ _ hb0 hb1).mono ?_
          rintro ev w1 ⟨rfl, rfl⟩
          obtain ⟨k1, ek1⟩ : ∃ k1 : Nat, (k : Int) + 1 = k1 := ⟨k + 1, by omega⟩
          go_wp2
          go_step3
          obtain rfl : k1 = k + 1 := by omega
          refine ⟨⟨k + 1, e, n, g, cap, _, _, _, _, ts, lexF_of (rfl), by omega, hn, hg, hown, htc, hbel, HX.out⟩, by simp only [lexMu, lexRank]; simp [intOf] <;> omega⟩
        | false =>
          have HSL : Hid (Lib.hasPrefix (s.extract k s.size).data.toList [47, 47] = slashB s k) := slash_is s k
          cases hsl : slashB s k with
          | true =>
            go_wp2_with fail
            refine (blanks_any _ _ hb0 hb1).mono ?_
            rintro ev w1 ⟨rfl, rfl⟩
            go_wp2_with fail
            refine (Tryz.strings_HasPrefix _ _ _).mono ?_
            rintro ev w1 ⟨rfl, rfl⟩
            rw [HSL.out]
            rw [hsl]
            go_wp2_with fail
            refine (commentEnd_any _ _ _ hk hs).mono ?_
            rintro ev w1 ⟨c, rfl, hc, rfl⟩
            have HX : Hid (∀ b, Skip s c b → ∀ r, Lx s scr b n r → LexR s scr (r.map (ts ++ ·))) := fun b hb => HAT.out b (.comment hlt (of_decide_eq_true hsl) hc hb)
            have hc1 := comment_lt hlt (of_decide_eq_true hsl) hc
            have hc2 := hc.2.1
            clear hc
            go_wp2
            go_step3
            refine ⟨⟨c, e, n, g, cap, _, _, _, _, ts, lexF_of (rfl), hc2, hn, hg, hown, htc, hbel, HX.out⟩, by simp only [lexMu, lexRank]; simp [intOf] <;> omega⟩
          | false =>
            have HLX : Hid (∀ r, Lx s scr k n r → LexR s scr (r.map (ts ++ ·))) := HAT.out k (.stop hlt (of_decide_eq_false hbl) (of_decide_eq_false hsl))
            cases hd : digB (bt s k) with
            | true =>
              go_wp2_with fail
              refine (blanks_any _ _ hb0 hb1).mono ?_
              rintro ev w1 ⟨rfl, rfl⟩
              go_wp2_with fail
              refine (Tryz.strings_HasPrefix _ _ _).mono ?_
              rintro ev w1 ⟨rfl, rfl⟩
              rw [HSL.out]
              rw [hsl]
              go_wp2_with fail
              refine (isDigit_any _ _ hb0 hb1).mono ?_
              rintro ev w1 ⟨rfl, rfl⟩
              go_wp2
              go_step3
              refine ⟨⟨k, e, n, g, cap, _, _, _, _, ts, lexF_of (rfl), hk, hn, hg, hown, htc, hbel, ⟨hlt, HLX.out, hd⟩⟩, by simp only [lexMu, lexRank]; simp [intOf] <;> omega⟩
            | false =>
              cases hw : worB scr (bt s k) with
              | true =>
                have HL : Hid (letB (bt s k) scr = true) := by show _ = _; simp [worB, hd] at hw; exact hw
                go_wp2_with fail
                refine (blanks_any _ _ hb0 hb1).mono ?_
                rintro ev w1 ⟨rfl, rfl⟩
                go_wp2_with fail
                refine (Tryz.strings_HasPrefix _ _ _).mono ?_
                rintro ev w1 ⟨rfl, rfl⟩
                rw [HSL.out]
                rw [hsl]
                go_wp2_with fail
                refine (isDigit_any _ _ hb0 hb1).mono ?_
                rintro ev w1 ⟨rfl, rfl⟩
                go_wp2_with fail
                refine (isNameByte_any _ _ _ hb0 hb1).mono ?_
                rintro ev w1 ⟨rfl, rfl⟩
                go_wp2
                go_step3
                refine ⟨⟨k, e, n, g, cap, _, _, _, _, ts, lexF_of (rfl), hk, hn, hg, hown, htc, hbel, ⟨hlt, HLX.out, HL.out⟩⟩, by simp only [lexMu, lexRank]; simp [intOf] <;> omega⟩
              | false =>
                by_cases h34 : bt s k = 34
                · have H34 : Hid (bt s k = 34) := h34
                  have q34 : (bt s k == 34) = true := beq_iff_eq.2 h34
                  clear h34
                  go_wp2_with fail
                  refine (blanks_any _ _ hb0 hb1).mono ?_
                  rintro ev w1 ⟨rfl, rfl⟩
                  go_wp2_with fail
                  refine (Tryz.strings_HasPrefix _ _ _).mono ?_
                  rintro ev w1 ⟨rfl, rfl⟩
                  rw [HSL.out]
                  rw [hsl]
                  go_wp2_with fail
                  refine (isDigit_any _ _ hb0 hb1).mono ?_
                  rintro ev w1 ⟨rfl, rfl⟩
                  go_wp2_with fail
                  refine (isNameByte_any _ _ _ hb0 hb1).mono ?_
                  rintro ev w1 ⟨rfl, rfl⟩
                  go_wp2
                  go_step3
                  refine ⟨⟨k, e, n, g, cap, _, _, _, _, ts, lexF_of (rfl), hk, hn, hg, hown, htc, hbel, ⟨hlt, HLX.out, H34.out⟩⟩, by simp only [lexMu, lexRank]; simp [intOf] <;> omega⟩
                · have q34 : (bt s k == 34) = false := beq_eq_false_iff_ne.2 h34
                  cases hsg : sgnB (bt s k) with
                  | true =>
                    clear h34
                    go_wp2_with fail
                    refine (blanks_any _ _ hb0 hb1).mono ?_
                    rintro ev w1 ⟨rfl, rfl⟩
                    go_wp2_with fail
                    refine (Tryz.strings_HasPrefix _ _ _).mono ?_
                    rintro ev w1 ⟨rfl, rfl⟩
                    rw [HSL.out]
                    rw [hsl]
                    go_wp2_with fail
                    refine (isDigit_any _ _ hb0 hb1).mono ?_
                    rintro ev w1 ⟨rfl, rfl⟩
                    go_wp2_with fail
                    refine (isNameByte_any _ _ _ hb0 hb1).mono ?_
                    rintro ev w1 ⟨rfl, rfl⟩
                    go_wp2_with fail
                    refine (signs_any _ _ hb0 hb1).mono ?_
                    rintro ev w1 ⟨rfl, rfl⟩
                    go_wp2
                    go_step3
                    refine ⟨⟨k, e, n, g, cap, _, _, _, _, ts, lexF_of (rfl), hk, hn, hg, hown, htc, hbel, ⟨hlt, HLX.out, of_decide_eq_true hsg⟩⟩, by simp only [lexMu, lexRank]; simp [intOf] <;> omega⟩
                  | false =>
                    have HE : Hid (LexR s scr (.error k)) := lex_error HLX.out hlt (.inr (tok_no (by simp [worB, hd] at hw; exact hw) hd h34 (of_decide_eq_false hsg)))
                    clear h34
                    go_wp2_with fail
                    refine (blanks_any _ _ hb0 hb1).mono ?_
                    rintro ev w1 ⟨rfl, rfl⟩
                    go_wp2_with fail
                    refine (Tryz.strings_HasPrefix _ _ _).mono ?_
                    rintro ev w1 ⟨rfl, rfl⟩
                    rw [HSL.out]
                    rw [hsl]
                    go_wp2_with fail
                    refine (isDigit_any _ _ hb0 hb1).mono ?_
                    rintro ev w1 ⟨rfl, rfl⟩
                    go_wp2_with fail
                    refine (isNameByte_any _ _ _ hb0 hb1).mono ?_
                    rintro ev w1 ⟨rfl, rfl⟩
                    go_wp2_with fail
                    refine (signs_any _ _ hb0 hb1).mono ?_
                    rintro ev w1 ⟨rfl, rfl⟩
                    go_wp2
                    simp only [Leaves]
                    go_ret2
                    exact ⟨⟨_, HE.out, rfl⟩, hbel⟩
    · obtain ⟨hlt, hlx, hwhat⟩ := hat
      have HLX : Hid (∀ r, Lx s scr k n r → LexR s scr (r.map (ts ++ ·))) := hlx
      have HW : Hid (digB (bt s k) = true) := hwhat
      clear hlx hwhat
      clear IH
      refine ⟨_, rfl, ?_⟩
      unfold lexF
      go_wp2_with fail
      refine (numberToken_any _ _ scr _ hlt HW.out hs).mono ?_
      rintro ev w1 ⟨v, z, rfl, hout, hb1'⟩
      have htc1 := htc.later hb1'
      obtain ⟨hc0, hc1, hc2, hc3, hf0, hf1, hf2, hf3⟩ := htc1.cells
      have hbel1 := hbel.trans (hb1'.mono hsz)
      have hown1 := ownT_later hown hb1'
      rcases hout with ⟨⟨kd', tx', nm', ps'⟩, m, rfl, rfl, ht⟩ | ⟨rfl, ⟨c1, c2, c3, c4, rfl⟩, hno⟩
      · have HT : Hid (Tok s scr k ⟨kd', tx', nm', ps'⟩ m) := ht
        clear ht
        simp only [tkV]
        go_wp2
        go_step3
        refine ⟨⟨k, m, n, g, cap, _, _, _, _, ts, lexF_of (rfl), hk, hn, hg, ownT_four hown1 hg _ _ _ _, htc1.put, below_four hbel1 (Nat.le_succ _) _ _ _ _, ⟨hlt, HLX.out, .inl ⟨⟨kd', tx', nm', ps'⟩, rfl, rfl, rfl, rfl, HT.out⟩⟩⟩, by simp only [lexMu, lexRank]; simp [intOf] <;> omega⟩
      · have HNO : Hid (∀ t m, ¬ Tok s scr k t m) := hno
        clear hno
        go_wp2
        go_step3
        refine ⟨⟨k, k, n, g, cap, _, _, _, _, ts, lexF_of (rfl), hk, hn, hg, ownT_four hown1 hg _ _ _ _, htc1.put, below_four hbel1 (Nat.le_succ _) _ _ _ _, ⟨hlt, HLX.out, .inr ⟨rfl, HNO.out⟩⟩⟩, by simp only [lexMu, lexRank]; simp [intOf] <;> omega⟩
    · obtain ⟨hlt, hlx, hwhat⟩ := hat
      have HLX : Hid (∀ r, Lx s scr k n r → LexR s scr (r.map (ts ++ ·))) := hlx
      have HW : Hid (letB (bt s k) scr = true) := hwhat
      clear hlx hwhat
      clear IH
      refine ⟨_, rfl, ?_⟩
      unfold lexF
      go_wp2_with fail
      refine (nameEnd_any _ _ _ _ hk hs).mono ?_
      rintro ev w0 ⟨m, rfl, hr, rfl⟩
      have HT : Hid (Tok s scr k ⟨1, s.extract k m, 0, k⟩ m) := .name HW.out hr
      have hm1 := hr.1
      have hm2 := hr.2.1
      clear hr
      go_wp2_with fail
      refine (cloneL_any _ _ (by rw [size_piece _ _ _ hm2]; omega)).mono ?_
      rintro ev w1 ⟨rfl, hb1'⟩
      have htc1 := htc.later hb1'
      obtain ⟨hc0, hc1, hc2, hc3, hf0, hf1, hf2, hf3⟩ := htc1.cells
      have hbel1 := hbel.trans (hb1'.mono hsz)
      have hown1 := ownT_later hown hb1'
      go_wp2
      go_step3
      refine ⟨⟨k, m, n, g, cap, _, _, _, _, ts, lexF_of (rfl), hk, hn, hg, ownT_four hown1 hg _ _ _ _, htc1.put, below_four hbel1 (Nat.le_succ _) _ _ _ _, ⟨hlt, HLX.out, .inl ⟨⟨1, s.extract k m, 0, k⟩, rfl, rfl, rfl, rfl, HT.out⟩⟩⟩, by simp only [lexMu, lexRank]; simp [intOf] <;> omega⟩
    · obtain ⟨hlt, hlx, hwhat⟩ := hat
      have HLX : Hid (∀ r, Lx s scr k n r → LexR s scr (r.map (ts ++ ·))) := hlx
      have HW : Hid (bt s k = 34) := hwhat
      clear hlx hwhat
      clear IH
      refine ⟨_, rfl, ?_⟩
      unfold lexF
      go_wp2_with fail
      refine (quotedToken_any _ _ scr _ hlt HW.out hs).mono ?_
      rintro ev w1 ⟨v, z, rfl, hout, hb1'⟩
      have htc1 := htc.later hb1'
      obtain ⟨hc0, hc1, hc2, hc3, hf0, hf1, hf2, hf3⟩ := htc1.cells
      have hbel1 := hbel.trans (hb1'.mono hsz)
      have hown1 := ownT_later hown hb1'
      rcases hout with ⟨⟨kd', tx', nm', ps'⟩, m, rfl, rfl, ht⟩ | ⟨rfl, ⟨c1, c2, c3, c4, rfl⟩, hno⟩
      · have HT : Hid (Tok s scr k ⟨kd', tx', nm', ps'⟩ m) := ht
        clear ht
        simp only [tkV]
        go_wp2
        go_step3
        refine ⟨⟨k, m, n, g, cap, _, _, _, _, ts, lexF_of (rfl), hk, hn, hg, ownT_four hown1 hg _ _ _ _, htc1.put, below_four hbel1 (Nat.le_succ _) _ _ _ _, ⟨hlt, HLX.out, .inl ⟨⟨kd', tx', nm', ps'⟩, rfl, rfl, rfl, rfl, HT.out⟩⟩⟩, by simp only [lexMu, lexRank]; simp [intOf] <;> omega⟩
      · have HNO : Hid (∀ t m, ¬ Tok s scr k t m) := hno
        clear hno
        go_wp2
        go_step3
        refine ⟨⟨k, k, n, g, cap, _, _, _, _, ts, lexF_of (rfl), hk, hn, hg, ownT_four hown1 hg _ _ _ _, htc1.put, below_four hbel1 (Nat.le_succ _) _ _ _ _, ⟨hlt, HLX.out, .inr ⟨rfl, HNO.out⟩⟩⟩, by simp only [lexMu, lexRank]; simp [intOf] <;> omega⟩
    · obtain ⟨hlt, hlx, hwhat⟩ := hat
      have HLX : Hid (∀ r, Lx s scr k n r → LexR s scr (r.map (ts ++ ·))) := hlx
      have HW : Hid (Sign (bt s k)) := hwhat
      clear hlx hwhat
      have HIH : Hid _ := IH
      clear IH
      refine ⟨_, rfl, ?_⟩
      unfold lexF
      obtain ⟨k1, hk1⟩ : ∃ k1 : Nat, k1 = k + 1 := ⟨_, rfl⟩
      have ek1 : (k : Int) + 1 = k1 := by omega
      have HK1 : Hid (k1 = k + 1) := hk1
      have hx1 : k ≤ k1 := by omega
      have hx2 : k1 ≤ s.size := by omega
      clear hk1
      go_wp2_with fail
      refine (cloneL_any _ _ (by rw [size_piece _ _ _ hx2]; omega)).mono ?_
      rintro ev w1 ⟨rfl, hb1'⟩
      have htc1 := htc.later hb1'
      obtain ⟨hc0, hc1, hc2, hc3, hf0, hf1, hf2, hf3⟩ := htc1.cells
      have hbel1 := hbel.trans (hb1'.mono hsz)
      have hown1 := ownT_later hown hb1'
      go_wp2
      go_step3
      rename_i K hK
      refine hK _ _ (HIH.out 5 _ _ _ rfl ?_ ?_)
      · exact ⟨k, k1, n, g, cap, _, _, _, _, ts, lexF_of rfl, hk, hn, hg, ownT_four hown1 hg _ _ _ _, htc1.put, below_four hbel1 (Nat.le_succ _) _ _ _ _, ⟨hlt, HLX.out, .inl ⟨⟨4, s.extract k k1, 0, k⟩, rfl, rfl, rfl, rfl, by rw [HK1.out]; exact .sign HW.out⟩⟩⟩
      · simp only [lexMu, lexRank, lexF]; simp [intOf]
    · obtain ⟨hlt, hlx, hwhat⟩ := hat
      have HLX : Hid (∀ r, Lx s scr k n r → LexR s scr (r.map (ts ++ ·))) := hlx
      clear hlx IH
      obtain ⟨hc0, hc1, hc2, hc3, hf0, hf1, hf2, hf3⟩ := htc.cells
      have hgt := htc.lt
      refine ⟨_, rfl, ?_⟩
      unfold lexF
      rcases hwhat with ⟨⟨kd', tx', nm', ps'⟩, rfl, rfl, rfl, rfl, ht⟩ | ⟨rfl, hno⟩
      · have hm1 := (tok_end hlt ht).1
        have hm2 := (tok_end hlt ht).2.1
        have HT : Hid (Tok s scr k ⟨kd, tx, nm, ps'⟩ e) := ht
        clear ht
        have q1 : ((e : Int) == (k : Int)) = false := beq_eq_false_iff_ne.2 (by omega)
        by_cases hn4 : n = 4000
        · have HE : Hid (LexR s scr (.error k)) := lex_error HLX.out hlt (.inl (by omega))
          have q2 : ((n : Int) == 4000) = true := beq_iff_eq.2 (by omega)
          clear hn4
          go_wp2
          simp only [Leaves]
          go_ret2
          exact ⟨⟨_, HE.out, rfl⟩, hbel⟩
        · have HX : Hid (∀ b, Skip s e b → ∀ r, Lx s scr b (n + 1) r → LexR s scr (r.map ((ts ++ [⟨kd, tx, nm, ps'⟩]) ++ ·))) := fun b hb => lex_next HLX.out hlt (by omega) HT.out hb
          have q2 : ((n : Int) == 4000) = false := beq_eq_false_iff_ne.2 (by omega)
          have hn5 : n + 1 ≤ 4000 := by omega
          clear hn4
          go_wp2_with (first | (at_builtin; refine app_tok_at wr rfl _ _ 49 rfl w.heap.size 111 i0 _ Tryz.underlying49 hi hz0 hz1 hz2 rfl g n cap ts (by rfl) hown ⟨kd, tx, nm, ps'⟩ wr.heap.size rfl (by rfl) (by omega) hsz ?_))
          intro g2 cap2 w2 hown2 hb2 hg2 hrest2
          have hg3 : g2 ≠ w.heap.size + 1 := by omega
          go_wp2
          go_step3
          refine ⟨⟨e, e, n + 1, g2, cap2, _, _, _, _, _, lexF_of (rfl), hm2, hn5, hg3, hown2, ((hrest2 _ hgt (Ne.symm hg)).trans htc), hbel.trans hb2, HX.out⟩, by simp only [lexMu, lexRank]; simp [intOf] <;> omega⟩
      · have HE : Hid (LexR s scr (.error e)) := lex_error HLX.out hlt (.inr hno)
        have q1 : ((e : Int) == (e : Int)) = true := beq_iff_eq.2 rfl
        clear hno
        go_wp2
        simp only [Leaves]
        go_ret2
        exact ⟨⟨_, HE.out, rfl⟩, hbel⟩
    · match l, hl6, hat with
      | l + 6, _, hat => exact hat.elim
  · intro hrest
    go_wp2
    go_step3
    rename_i K hK
    refine hK _ _ (hrest 0 _ _ _ rfl ?_)
    have hbE := ((Below.refl w.heap.size w).alloc (Nat.le_refl _) (.cells #[] 111)).alloc (by rw [alloc_size]; omega) (.cells #[.int .i64 0, .string { data := #[] }, .int .i64 0, .int .i64 0] 111)
    have hT : TC ((w.alloc (.cells #[] 111)).alloc (.cells #[.int .i64 0, .string { data := #[] }, .int .i64 0, .int .i64 0] 111)) (w.heap.size + 1) 0 { data := #[] } 0 0 := by
      have := heap_alloc_new (w.alloc (.cells #[] 111)) (.cells #[.int .i64 0, .string { data := #[] }, .int .i64 0, .int .i64 0] 111)
      rw [alloc_size] at this
      exact this
    exact ⟨0, 0, 0, w.heap.size, 0, _, _, _, _, [], lexF_of rfl, Nat.zero_le _, by omega, by omega, ownT_later (ownT_nil w _ _ (Nat.le_refl _)) ((Below.refl _ _).alloc (Nat.le_refl _) _), hT, hbE, fun b hb r hr => ⟨b, hb, by cases r <;> simpa [Except.map] using hr⟩⟩
end Go.Proofs.YticdggnnpjachaaGreat
