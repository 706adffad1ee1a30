/-
  What the specification's draw of a program's text tells: some text, not a long one: the walk.
  A row of tokens in memory, and appending one. No program is spoken of.
-/
import Derived.Deep.LoopGhost
import Derived.Test.YtdbpknmoacjodaaCeDrawProgBToSpoilBase
namespace Go.Proofs.Ytdbpknmoacjodaa
open Go.RowKit Go.PlainAid

theorem spoil_le (S : Src) (q : Nat × Int) (s : ByteArray) : (spoil S q s).1.size ≤ s.size + 4 := by
  have h3 := tx_len S q 3 (by omega)
  unfold spoil
  split
  · simp only [strOfNums_size]; omega
  · split
    · simp only [ByteArray.size_append, ByteArray.size_extract]; omega
    · split
      · simp only [ByteArray.size_append, ByteArray.size_extract, strOfNums_size, List.length_cons, List.length_nil]; omega
      · split
        · simp only [ByteArray.size_extract]; omega
        · simp only [ByteArray.size_append, ByteArray.size_extract, strOfNums_size, List.length_cons, List.length_nil]; omega
theorem l1Size_some (S : Src) (hS : S.len ≤ 9223372036854775807) (most : Int) (h0 : 2 ≤ most) (h1 : most ≤ 1000) (w : World) :
    Calls Try.prog 98 #[.slice S.a S.len S.cap, .int .i64 most] w fun e w' => (∃ r : Nat, e = .returned (.int .i64 (r : Int)) ∧ (r : Int) ≤ most) ∧ w' = w := by
  go_enter Try.func98, Try.ntmps98
  by_cases h : most < 2 + (S.len : Int) / 20
  · go_wp2
    go_ret
    exact ⟨⟨most.toNat, by rw [Int.toNat_of_nonneg (by omega)]; rfl, by omega⟩, rfl⟩
  · go_wp2
    go_ret
    exact ⟨⟨(2 + (S.len : Int) / 20).toNat, by rw [Int.toNat_of_nonneg (by omega)]; rfl, by omega⟩, rfl⟩
set_option maxRecDepth 100000 in
set_option maxHeartbeats 6400000 in
theorem l4Text_some (S : Src) (hS : S.ok) (g : Nat) (most : Nat) (hm : most ≤ 10) (scr : Bool) (q0 : Nat × Int) (w0 : World) (hc : CurW 201 S w0 g q0) :
    Calls Try.prog 158 #[.pointer (some ⟨g, 0, none⟩), .int .i64 (most : Int), .bool scr] w0 (StrOut S g 20000 w0) := by
  have HC0 := hidI hc
  have HG0 : Hid (w0.grownBy w0 (some g)) := ⟨rfl, rfl, rfl, Nat.le_refl _, fun _ _ _ => rfl⟩
  clear hc
  go_enter Try.func158, Try.ntmps158
  go_wp2_with fail
  refine (l1Below_any S hS g q0 ((most : Int) + 1) _ HC0.out (by omega)).mono ?_
  rintro e w1 ⟨rfl, hc, hg⟩
  have hbd := bw_bd S q0 ((most : Int) + 1) (by omega)
  obtain ⟨k1, hk⟩ : ∃ k : Nat, (bw S q0 ((most : Int) + 1)).1 = k := ⟨(bw S q0 ((most : Int) + 1)).1.toNat, by omega⟩
  obtain ⟨q1, hq⟩ : ∃ q', (bw S q0 ((most : Int) + 1)).2 = q' := ⟨_, rfl⟩
  rw [hk] at hbd ⊢
  rw [hq] at hc
  have HC1 := hidI hc
  have HG1 := hidI (grown_trans HG0.out hg)
  have kb : k1 ≤ 10 := by omega
  clear hc hg hbd hk hq
  go_wp2
  go_loopg [7, 8] k1 (fun k sv nv wr => ∃ (x : ByteArray) (q : Nat × Int), nv = .int .i64 (k : Int) ∧ sv = .string x ∧ k ≤ 10 ∧ x.size + 1501 * k ≤ 15010 ∧ CurW 201 S wr g q ∧ w0.grownBy wr (some g))
  case atStart => exact ⟨_, q1, rfl, rfl, kb, by have : ({ data := #[] } : ByteArray).size = 0 := rfl; omega, HC1.out, HG1.out⟩
  case round =>
    obtain ⟨x, q, rfl, rfl, hk, hx, hcr, hgr⟩ := hrel
    clear HC1 HG1
    have HC1 := hidI hcr
    have HG1 := hidI hgr
    clear hcr hgr
    by_cases hpos : 0 < gk
    · have hpi : 0 < (gk : Int) := by omega
      go_wp2_with fail
      refine (l4Line_some S hS g scr q _ HC1.out).mono ?_
      rintro e w2 ⟨x2, q2, rfl, z2, hc, hg⟩
      have HC2 := hidI hc
      have HG2 := hidI (grown_trans HG1.out hg)
      clear hc hg
      have hz : (x ++ x2 ++ ({ data := #[10] } : ByteArray)).size = x.size + x2.size + 1 := by rw [ByteArray.size_append, ByteArray.size_append]; rfl
      have hz1 : (x ++ x2).size = x.size + x2.size := ByteArray.size_append
      have ek : (gk : Int) - 1 = ((gk - 1 : Nat) : Int) := by omega
      go_wp2
      go_roundg (gk - 1)
      case rel => exact ⟨_, q2, rfl, rfl, by omega, by omega, HC2.out, HG2.out⟩
      case measure => omega
    · have hpi : ¬ 0 < (gk : Int) := by omega
      go_wp2_with fail
      refine (l1Once_any S hS g _ 6 _ HC1.out (by omega)).mono ?_
      rintro e w2 ⟨rfl, hc, hg⟩
      obtain ⟨q2, hq⟩ : ∃ q', (bw S q 6).2 = q' := ⟨_, rfl⟩
      rw [hq] at hc
      have HC2 := hidI hc
      have HG2 := hidI (grown_trans HG1.out hg)
      clear hc hg hq
      generalize ((bw S q 6).1 == 0) = b
      cases b with
      | true =>
        go_wp2_with fail
        refine (l1Spoil_any S hS g q2 x _ HC2.out (by omega)).mono ?_
        rintro e w3 ⟨rfl, hc, hg⟩
        have hs := spoil_le S q2 x
        have HC3 := hidI hc
        have HG3 := hidI (grown_trans HG2.out hg)
        clear hc hg
        generalize spoil S q2 x = y at *
        go_wp2
        go_ret
        exact ⟨y.1, y.2, rfl, by omega, HC3.out, HG3.out⟩
      | false =>
        go_wp2_with fail
        refine (l1Once_any S hS g _ 15 _ HC2.out (by omega)).mono ?_
        rintro e w3 ⟨rfl, hc, hg⟩
        obtain ⟨q3, hq⟩ : ∃ q', (bw S q2 15).2 = q' := ⟨_, rfl⟩
        rw [hq] at hc
        have HC3 := hidI hc
        have HG3 := hidI (grown_trans HG2.out hg)
        clear hc hg hq
        generalize ((bw S q2 15).1 == 0) = b
        cases b with
        | true =>
          go_wp2_with fail
          refine (pick_new S hS g _ 100 [{ data := #[105, 109, 112, 111, 114, 116, 32, 100, 101, 102, 97, 117, 108, 116, 32, 102, 114, 111, 109, 32, 34, 120, 34, 59] }, { data := #[101, 120, 112, 111, 114, 116, 32, 123, 32, 100, 101, 102, 97, 117, 108, 116, 32, 125, 59] }, { data := #[105, 109, 112, 111, 114, 116, 32, 123, 32, 100, 101, 102, 97, 117, 108, 116, 32, 125, 32, 102, 114, 111, 109, 32, 34, 120, 34, 59] }, { data := #[108, 101, 116, 32, 108, 101, 116, 32, 61, 32, 49, 59] }, { data := #[112, 114, 105, 110, 116, 40, 49, 59] }, { data := #[97, 32, 61, 32, 59] }, { data := #[101, 120, 112, 111, 114, 116] }, { data := #[102, 97, 105, 108, 32, 49, 59] }, { data := #[108, 101, 116, 32, 117, 110, 100, 101, 102, 32, 61, 32, 49, 59] }, { data := #[105, 109, 112, 111, 114, 116, 32, 123, 32, 97, 32, 97, 115, 32, 100, 101, 102, 97, 117, 108, 116, 32, 125, 32, 102, 114, 111, 109, 32, 34, 120, 34, 59] }, { data := #[112, 114, 105, 110, 116, 40, 40, 40, 40, 40, 40, 40, 40, 40, 40, 40, 40, 40, 40, 40, 40, 40, 40, 40, 40, 40, 40, 49, 41, 41, 41, 41, 41, 41, 41, 41, 41, 41, 41, 41, 41, 41, 41, 41, 41, 41, 41, 41, 41, 41, 59] }] _ HC3.out (by simp) (by simp) (by intro x hx; simp only [List.mem_cons, List.not_mem_nil, or_false] at hx; rcases hx with rfl | rfl | rfl | rfl | rfl | rfl | rfl | rfl | rfl | rfl | rfl <;> decide)).mono ?_
          rintro e w4 ⟨x4, q4, rfl, z4, hc, hg⟩
          have HC4 := hidI hc
          have HG4 := hidI (grown_trans HG3.out hg)
          clear hc hg
          have hz : (x ++ x4).size = x.size + x4.size := ByteArray.size_append
          go_wp2
          go_ret
          exact ⟨_, q4, rfl, by omega, HC4.out, HG4.out⟩
        | false =>
          go_wp2
          go_ret
          exact ⟨x, q3, rfl, by omega, HC3.out, HG3.out⟩
end Go.Proofs.Ytdbpknmoacjodaa
namespace Go.Proofs.Ytdbpknmoacjodaa
open Go.RowKit Go.PlainAid

def tkL (t : Tk) : List Value := [.int .i64 t.kind, .string t.text, .int .i64 t.num, .int .i64 t.pos]
def OwnT (w : World) (base : Nat) (e : TypeId) (g n cap : Nat) (ts : List Tk) : Prop := w.ownsRow base e 4 (.slice (some ⟨g, 0, none⟩) n cap) n (ts.flatMap tkL) ∧ n = ts.length
theorem ownT_len {w : World} {base g n cap : Nat} {e : TypeId} {ts : List Tk} (h : OwnT w base e g n cap ts) : n = ts.length := h.2
theorem ownT_lt {w : World} {base g n cap : Nat} {e : TypeId} {ts : List Tk} (h : OwnT w base e g n cap ts) : g < w.heap.size ∧ base ≤ g ∧ n ≤ cap := by
  rcases h.1.2 with ⟨h', _⟩ | ⟨g', cap', cur, h', hb, hg, hn, _⟩
  · simp at h'
  · simp only [Value.slice.injEq, Option.some.injEq, Addr.mk.injEq, and_true, true_and] at h'
    obtain ⟨rfl, rfl⟩ := h'
    exact ⟨(Array.getElem?_eq_some_iff.1 hg).1, hb, hn⟩
theorem ownT_later {w W : World} {base g n cap : Nat} {e : TypeId} {ts : List Tk} (h : OwnT w base e g n cap ts) (hb : Below w.heap.size w W) : OwnT W base e g n cap ts := by
  have hlt := (ownT_lt h).1
  refine ⟨⟨h.1.1, ?_⟩, h.2⟩
  rcases h.1.2 with k | ⟨g', cap', cur, hv, hbase, hg, hr⟩
  · exact .inl k
  · simp only [Value.slice.injEq, Option.some.injEq, Addr.mk.injEq, and_true, true_and] at hv
    obtain ⟨rfl, rfl⟩ := hv
    exact .inr ⟨g, cap, cur, rfl, hbase, (hb.block g hlt).trans hg, hr⟩
theorem ownT_nil (w : World) (e : TypeId) (base : Nat) (hb : base ≤ w.heap.size) : OwnT (w.alloc (.cells #[] e)) base e w.heap.size 0 0 [] :=
  ⟨World.ownsRow_lit w #[] 0 hb (by unfold maxLen; omega) rfl, rfl⟩
theorem app_tok {P : Program} (w : World) {ops : Array Oper} {rest : List Oper} {o : Oper} {a : Act} {Q : Exit → Act → World → Prop} (hgd : o.guard = none) (s x : Operand) (t : TypeId)
    (ho : o.op = .call { callee := .builtin .append, args := #[s, x], argTypes := #[t, t] })
    (base : Nat) (e : TypeId) (i : TypeInfo) (z : Value) (ht : P.underlying t = some (.slice e)) (hi : P.info? e = some i) (hz : i.zero = some z) (hsize : i.size = 4) (hby : i.bytes = 40) (hzs : z.cells.size = 4)
    (g n cap : Nat) (ts : List Tk) (hs : a.eval s = .slice (some ⟨g, 0, none⟩) n cap) (hown : OwnT w base e g n cap ts)
    (b : Tk) (gx : Nat) (hgx : gx = w.heap.size) (hx : a.eval x = .slice (some ⟨gx, 0, none⟩) 1 1) (hn : n + 1 ≤ 1000000) (hbase : base ≤ w.heap.size)
    (h : ∀ g' cap' w', OwnT w' base e g' (n + 1) cap' (ts ++ [b]) → Below base w w' → wpList P ops Q rest (a.put o.dst (.slice (some ⟨g', 0, none⟩) (n + 1) cap')) w') :
    wpList P ops Q (o :: rest) a (w.alloc (.cells #[.int .i64 b.kind, .string b.text, .int .i64 b.num, .int .i64 b.pos] e)) := by
  subst hgx
  refine wpList_append_own _ hgd s x t ho base e i z 4 40 ht hi hz hsize hby hzs (by decide) _ n _ hs (hown.1.alloc _) ⟨w.heap.size, 0, none⟩ 1 1 (tkL b) hx rfl ?_ ?_ ?_ ?_ ?_ ?_
  · intro j u hj
    match j, hj with
    | 0, hj => simp [tkL] at hj; subst hj; simp [Addr.add]
    | 1, hj => simp [tkL] at hj; subst hj; simp [Addr.add]
    | 2, hj => simp [tkL] at hj; subst hj; simp [Addr.add]
    | 3, hj => simp [tkL] at hj; subst hj; simp [Addr.add]
    | j + 4, hj => simp [tkL] at hj
  · intro u hu
    simp [tkL] at hu
    rcases hu with rfl | rfl | rfl | rfl <;> rfl
  · unfold maxLen; omega
  · omega
  · simp; omega
  · intro v' w' h1 h2 h3
    have hb : Below base w w' := ((Below.refl base w).alloc hbase _).grown h2 (by simp; omega) (own_block_ge hown.1)
    rcases h1.2 with ⟨hv, _⟩ | ⟨g', cap', cur, rfl, hrest⟩
    · have := (h3.1 hv).1
      simp at this
    · refine h g' cap' w' ⟨?_, by rw [List.length_append]; have := hown.2; simp; omega⟩ hb
      rw [List.flatMap_append]
      simpa using h1
end Go.Proofs.Ytdbpknmoacjodaa
