/-
  What spec.ReadFiles answers: the walk.
  What spec.Find answers: the walk.
  A row of tokens in memory, and appending one. No program is spoken of.
  What markText of the laws answers: the walk.
  Rows of texts of the call's own that are marked cell by cell, without a program's rows. No program is spoken of but for markText.
-/
import Derived.Test.YtdbpknmoacjodaaCfSpecRead
import Derived.Test.YtdbpknmoacjodaaCfLawFiles
namespace Go.Proofs.Ytdbpknmoacjodaa
open Go.RowKit Go.PlainAid Go.Sort

def ReadOut (s : ByteArray) (w : World) (e : Ending) (w' : World) : Prop := Below w.heap.size w w' ∧ ∃ g n cap, e = .returned (.tuple #[.slice (some ⟨g, 0, none⟩) n cap, .bool (readS s).2]) ∧ OwnFl w' w.heap.size 52 g n cap (readS s).1
theorem read_none {s : ByteArray} {w w' : World} {g : Nat} (h : readS s = ([], false)) (hb : Below w.heap.size w w') (ho : OwnFl w' w.heap.size 52 g 0 0 []) : ReadOut s w (.returned (.tuple #[.slice (some ⟨g, 0, none⟩) 0 0, .bool false])) w' := ⟨hb, g, 0, 0, by rw [h], by rw [h]; exact ho⟩
theorem ownFl_low2 {w : World} {base b g n cap : Nat} {e : TypeId} {fs : List Fl} (h : OwnFl w base e g n cap fs) (hb : b ≤ base) : OwnFl w b e g n cap fs := by
  refine ⟨⟨h.1.1, ?_⟩, h.2⟩
  rcases h.1.2 with ⟨h', _⟩ | ⟨g', cap', cur, h', hbs, hg, hr⟩
  · simp at h'
  · exact .inr ⟨g', cap', cur, h', Nat.le_trans hb hbs, hg, hr⟩
set_option maxRecDepth 100000 in
set_option maxHeartbeats 6400000 in
theorem readFiles_spec (s : ByteArray) (w : World) (hs : s.size ≤ 1048576) : Calls Try.prog 34 #[.string s] w (ReadOut s w) := by
  obtain ⟨i0, hi, hz0, hz1, hz2⟩ := info_parts Try.infoFile
  have O0 := hidU (ownFl_nil w 52)
  have B0 : Hid (Below w.heap.size w (w.alloc (.cells #[] 52))) := (Below.refl _ _).alloc (Nat.le_refl _) _
  cases hv : varAt1 s 1 with
  | none =>
    have HV : Hid (readS s = ([], false)) := by show readS s = _; rw [readS, hv]
    go_enter Try.func34, Try.ntmps34
    go_wp2_with fail
    refine (l12Vars_one s 1 _ hs (by omega) (by omega)).mono ?_
    rintro e w1 ⟨hb1, g, n, cap, hm⟩
    rw [hv] at hm
    obtain rfl := hm
    clear hv
    go_wp2
    go_ret2
    exact read_none HV.out (B0.out.trans (hb1.mono B0.out.size)) (ownFl_later O0.out hb1)
  | some r =>
    obtain ⟨x, k⟩ := r
    obtain ⟨hx0, hx1, hk0, hk1⟩ := varAt1_bd hv
    obtain ⟨N, rfl⟩ : ∃ N : Nat, x = (N : Int) := ⟨x.toNat, by omega⟩
    by_cases h8 : 8 < N
    · have HV : Hid (readS s = ([], false)) := by show readS s = _; rw [readS, hv]; simp only; rw [if_pos (by omega)]
      have q8 : decide ((8 : Int) < (N : Int)) = true := decide_eq_true (by omega)
      go_enter Try.func34, Try.ntmps34
      go_wp2_with fail
      refine (l12Vars_one s 1 _ hs (by omega) (by omega)).mono ?_
      rintro e w1 ⟨hb1, g, n, cap, hm⟩
      rw [hv] at hm
      obtain ⟨rfl, hc, hg⟩ := hm
      simp only at hc
      clear hv
      go_wp2
      go_ret2
      exact read_none HV.out (B0.out.trans (hb1.mono B0.out.size)) (ownFl_later O0.out hb1)
    · have q8 : decide ((8 : Int) < (N : Int)) = false := decide_eq_false (by omega)
      have HV : Hid (readS s = match readTo s N k [] with
          | none => ([], false)
          | some F => if (showS F.length (ptOf F) (txOf F)).toList == s.toList then (F, true) else ([], false)) := by
        show readS s = _
        rw [readS, hv]
        simp only
        rw [if_neg (by omega), Int.toNat_natCast]
        cases readTo s N k [] <;> rfl
      go_enter Try.func34, Try.ntmps34
      go_wp2_with fail
      refine (l12Vars_one s 1 _ hs (by omega) (by omega)).mono ?_
      rintro e w1 ⟨hb1, gn, n, cap, hm⟩
      rw [hv] at hm
      obtain ⟨rfl, hc, hg⟩ := hm
      simp only at hc
      have O1 := hidU (ownFl_later O0.out hb1)
      have B1 := hidU (B0.out.trans (hb1.mono B0.out.size))
      have hne : w.heap.size ≠ gn := by
        intro e
        have h1 := (hb1.cell (p := ⟨w.heap.size, 0, none⟩) (by show w.heap.size < (w.heap.push _).size; simp))
        rw [e] at h1
        rw [hc, ← e, World.cell?_alloc_new] at h1
        simp at h1
      have C1 := hidU hc
      have G1 := hidU hg
      have H8 := hidU h8
      clear hv hb1 O0 B0 h8
      go_wp2
      clear hc hg
      go_loopw [4, 6, 7, 8, 9, 10] (fun o a i _ _ _ wr => ∃ (j : Nat) (at_ : Int) (g cap : Nat) (out : List Fl), j ≤ N ∧ i = .int .i64 j ∧ a = .int .i64 at_ ∧ o = .slice (some ⟨g, 0, none⟩) j cap ∧ (-1 ≤ at_ ∧ at_ ≤ s.size) ∧ readTo s N k [] = readTo s (N - j) at_ out ∧ OwnFl wr w.heap.size 52 g j cap out ∧ (∀ y ∈ out, y.1.size ≤ 1048576 ∧ y.2.size ≤ 1048576) ∧ wr.cell? ⟨gn, 0, none⟩ = some (.int .i64 (N : Int)) ∧ gn < wr.heap.size ∧ g ≠ gn ∧ Below w.heap.size w wr) (fun _ _ i _ _ _ _ => (N - intOf i).toNat)
      case atStart => exact ⟨0, k, w.heap.size, 0, [], Nat.zero_le _, rfl, rfl, rfl, ⟨by omega, by omega⟩, rfl, O1.out, (fun y hy => by cases hy), C1.out, G1.out, hne, B1.out⟩
      case round =>
        obtain ⟨j, a, g, cap, out, hj, rfl, rfl, rfl, ⟨ha0, ha1⟩, hrd, ho, hsz, hc, hg, hgn, hb⟩ := hrel
        have HR := hidU hrd
        have O2 := hidU ho
        have S2 := hidU hsz
        have C2 := hidU hc
        have B2 := hidU hb
        clear hrd hsz
        by_cases hlt : j < N
        · have hN8 : N ≤ 8 := by have := H8.out; omega
          have t1 := takeS_bd s a
          have t2 := takeS_bd s (takeS s a).2
          have HT : Hid (readTo s (N - j) a out = if (takeS s (takeS s a).2).2 < 0 then none else readTo s (N - (j + 1)) (takeS s (takeS s a).2).2 (out ++ [((takeS s a).1, (takeS s (takeS s a).2).1)])) := by
            show _ = _
            rw [show N - j = (N - (j + 1)) + 1 from by omega]
            rfl
          clear ho hb
          go_wp2_with fail
          refine (l12Take_spec s a wr hs ha0 (by omega)).mono ?_
          rintro e w3 ⟨rfl, hb3⟩
          have O3 := hidU (ownFl_later O2.out hb3)
          have C3 := hidU ((hb3.cell hg).trans C2.out)
          have B3 := hidU (B2.out.trans (hb3.mono B2.out.size))
          have hg3 := Nat.lt_of_lt_of_le hg hb3.size
          clear hb3 hc C2 O2 B2
          generalize takeS s a = r1 at t1 t2 HT ⊢
          obtain ⟨p1, e1⟩ := r1
          simp only at t1 t2 HT ⊢
          go_wp2_with fail
          refine (l12Take_spec s e1 w3 hs (by omega) (by omega)).mono ?_
          rintro e w4 ⟨rfl, hb4⟩
          have O4 := hidU (ownFl_later O3.out hb4)
          have C4 := hidU ((hb4.cell hg3).trans C3.out)
          have B4 := hidU (B3.out.trans (hb4.mono B3.out.size))
          have hg4 := Nat.lt_of_lt_of_le hg3 hb4.size
          clear hb4 C3 O3 B3 hg hg3
          generalize takeS s e1 = r2 at t2 HT ⊢
          obtain ⟨p2, e2⟩ := r2
          simp only at t2 HT ⊢
          by_cases hneg : e2 < 0
          · have HE : Hid (readS s = ([], false)) := by
              show _ = _
              rw [HV.out, HR.out, HT.out, if_pos hneg]
            go_wp2
            go_ret2
            exact read_none HE.out (B4.out.alloc B4.out.size _) (ownFl_low2 (ownFl_nil w4 _) B4.out.size)
          · have HE : Hid (readTo s N k [] = readTo s (N - (j + 1)) e2 (out ++ [(p1, p2)])) := by
              show _ = _
              rw [HR.out, HT.out, if_neg hneg]
            go_wp2_with (at_builtin; refine app_file w4 rfl _ _ 48 rfl w.heap.size 52 i0 _ Try.underlying48 hi hz0 hz1 hz2 rfl g j cap _ (by rfl) O4.out (p1, p2) (by rfl) (by omega) ?_; intro g5 cap5 w5 ho5 hg5 hat5)
            go_roundw
            case rel =>
              refine ⟨j + 1, e2, g5, cap5, out ++ [(p1, p2)], hlt, by go_num, rfl, rfl, ⟨by omega, by omega⟩, HE.out, ho5, fun y hy => ?_, ?_, Nat.lt_of_lt_of_le hg4 hg5.size, by omega, B4.out.grown hg5 B4.out.size (fun q hq => by cases hq; exact (ownFl_blk O4.out).1)⟩
              · rcases List.mem_append.1 hy with hy | hy
                · exact S2.out y hy
                · rw [List.mem_singleton] at hy
                  rw [hy]
                  exact ⟨by simp only; omega, by simp only; omega⟩
              · have hbk := hg5.block gn hg4 (fun e => hgn (Option.some.inj e).symm)
                have h5 := C4.out
                unfold World.cell? at h5 ⊢
                rw [hbk]
                exact h5
            case measure => simp [intOf]; omega
        · have HE : Hid (readTo s N k [] = some out) := by
            show _ = _
            rw [HR.out, show N - j = 0 from by omega]
            rfl
          have HJ := hidU ho.2
          have hsz2 : ∀ i, i < j → (ptOf out i).size ≤ 1048576 ∧ (txOf out i).size ≤ 1048576 := fun i hi' => by
            have hj' : i < out.length := by rw [← HJ.out]; exact hi'
            refine S2.out (out.getD i flNo) ?_
            rw [List.getD, List.getElem?_eq_getElem hj']
            exact List.getElem_mem hj'
          clear ho hb
          go_wp2_with fail
          refine (showFiles_specC g j cap (ptOf out) (txOf out) wr (ownFl_files O2.out) (by have := H8.out; omega) (fun i hi' => (hsz2 i hi').1) (fun i hi' => (hsz2 i hi').2)).mono ?_
          rintro e w3 ⟨rfl, hb3⟩
          have O3 := hidU (ownFl_later O2.out hb3)
          have B3 := hidU (B2.out.trans (hb3.mono B2.out.size))
          clear hb3 hsz2 hc
          cases heq : (showS j (ptOf out) (txOf out)).toList == s.toList with
          | true =>
            have heq2 : (!((showS j (ptOf out) (txOf out)).toList == s.toList)) = false := by rw [heq]; rfl
            have HF : Hid (readS s = (out, true)) := by
              show _ = _
              rw [HV.out, HE.out]
              simp only
              rw [← HJ.out, heq]
              rfl
            go_wp2
            go_ret2
            exact ⟨B3.out, g, j, cap, by show Ending.returned (.tuple #[.slice (some ⟨g, 0, none⟩) j cap, .bool true]) = _; rw [HF.out], by rw [HF.out]; exact O3.out⟩
          | false =>
            have heq2 : (!((showS j (ptOf out) (txOf out)).toList == s.toList)) = true := by rw [heq]; rfl
            have HF : Hid (readS s = ([], false)) := by
              show _ = _
              rw [HV.out, HE.out]
              simp only
              rw [← HJ.out, heq]
              rfl
            go_wp2
            go_ret2
            exact read_none HF.out (B3.out.alloc B3.out.size _) (ownFl_low2 (ownFl_nil w3 _) B3.out.size)
end Go.Proofs.Ytdbpknmoacjodaa
namespace Go.Proofs.Ytdbpknmoacjodaa
open Go.RowKit Go.PlainAid

set_option maxRecDepth 100000 in
set_option maxHeartbeats 1600000 in
theorem find_specC (g len cap : Nat) (Pt Tx : Nat → ByteArray) (q : ByteArray) (w : World) (hf : FilesAt w (some ⟨g, 0, none⟩) g 0 len Pt Tx) (hl : len ≤ 1048576) (hp : ∀ j, j < len → (Pt j).size ≤ 1048576) (ht : ∀ j, j < len → (Tx j).size ≤ 1048576) :
    Calls Try.prog 37 #[.slice (some ⟨g, 0, none⟩) len cap, .string q] w fun e w' => e = .returned (.tuple #[.string (findS len Pt Tx q).1, .bool (findS len Pt Tx q).2]) ∧ Below w.heap.size w w' := by
  cases hfb : filesB len Pt Tx with
  | false =>
    have HV : Hid (findS len Pt Tx q = ({ data := #[] }, false)) := findS_bad hfb
    go_enter Try.func37, Try.ntmps37
    go_wp2_with fail
    refine (filesOk_specC g len cap Pt Tx _ hf hl hp ht).mono ?_
    rintro e w1 ⟨rfl, hb1⟩
    go_wp2
    go_ret2
    exact ⟨ret_str_bool (by rw [HV.out]) (by rw [HV.out]), hb1⟩
  | true =>
    go_enter Try.func37, Try.ntmps37
    go_wp2_with fail
    refine (filesOk_specC g len cap Pt Tx _ hf hl hp ht).mono ?_
    rintro e w1 ⟨rfl, hb1⟩
    have hf' := hf.later hb1
    go_wp2
    go_loop [6] (fun i => ∃ k : Nat, k ≤ len ∧ i = .int .i64 k ∧ (∀ j, j < k → Pt j ≠ q)) (fun i => (len - intOf i).toNat)
    case atStart => exact ⟨0, by omega, rfl, fun j hj => absurd hj (Nat.not_lt_zero j)⟩
    case round =>
      obtain ⟨k, hk, rfl, hno⟩ := hrel
      have HNO : Hid (∀ j, j < k → Pt j ≠ q) := hno
      clear hno
      by_cases hlt : k < len
      · have c0 := hf'.path k hlt
        have c1 := hf'.text k hlt
        rw [Nat.zero_add] at c0 c1
        by_cases hpq : Pt k = q
        · have hq : ((Pt k).toList == q.toList) = true := (toList_eq_iff _ _).2 hpq
          have HV : Hid (findS len Pt Tx q = (Tx k, true)) := findS_at hfb hlt hpq HNO.out
          clear hpq
          go_wp2
          go_ret2
          exact ⟨ret_str_bool (by rw [HV.out]) (by rw [HV.out]), hb1⟩
        · have hq : ((Pt k).toList == q.toList) = false := toList_ne hpq
          have HX : Hid (∀ j, j < k + 1 → Pt j ≠ q) := fun j hj => by
            by_cases e : j = k
            · rw [e]; exact hpq
            · exact HNO.out j (by omega)
          clear hpq
          go_wp2
          go_round
          case rel => exact ⟨k + 1, by omega, by go_num, HX.out⟩
          case measure => simp [intOf]; omega
      · have HV : Hid (findS len Pt Tx q = ({ data := #[] }, false)) := findS_none (fun j hj => HNO.out j (by omega))
        go_wp2
        go_ret2
        exact ⟨ret_str_bool (by rw [HV.out]) (by rw [HV.out]), hb1⟩
theorem find_spec (g len : Nat) (Pt Tx : Nat → ByteArray) (q : ByteArray) (w : World) (hf : FilesAt w (some ⟨g, 0, none⟩) g 0 len Pt Tx) (hl : len ≤ 1048576) (hp : ∀ j, j < len → (Pt j).size ≤ 1048576) (ht : ∀ j, j < len → (Tx j).size ≤ 1048576) :
    Calls Try.prog 37 #[.slice (some ⟨g, 0, none⟩) len len, .string q] w fun e w' => e = .returned (.tuple #[.string (findS len Pt Tx q).1, .bool (findS len Pt Tx q).2]) ∧ Below w.heap.size w w' := find_specC g len len Pt Tx q w hf hl hp ht
end Go.Proofs.Ytdbpknmoacjodaa
namespace Go.Proofs.Ytdbpknmoacjodaa
open Go.RowKit Go.PlainAid

def tkL (t : Tk) : List Value := [.int .i64 t.kind, .string t.text, .int .i64 t.num, .int .i64 t.pos]
def OwnT (w : World) (base : Nat) (e : TypeId) (g n cap : Nat) (ts : List Tk) : Prop := w.ownsRow base e 4 (.slice (some ⟨g, 0, none⟩) n cap) n (ts.flatMap tkL) ∧ n = ts.length
theorem ownT_len {w : World} {base g n cap : Nat} {e : TypeId} {ts : List Tk} (h : OwnT w base e g n cap ts) : n = ts.length := h.2
theorem ownT_lt {w : World} {base g n cap : Nat} {e : TypeId} {ts : List Tk} (h : OwnT w base e g n cap ts) : g < w.heap.size ∧ base ≤ g ∧ n ≤ cap := by
  rcases h.1.2 with ⟨h', _⟩ | ⟨g', cap', cur, h', hb, hg, hn, _⟩
  · simp at h'
  · simp only [Value.slice.injEq, Option.some.injEq, Addr.mk.injEq, and_true, true_and] at h'
    obtain ⟨rfl, rfl⟩ := h'
    exact ⟨(Array.getElem?_eq_some_iff.1 hg).1, hb, hn⟩
theorem ownT_later {w W : World} {base g n cap : Nat} {e : TypeId} {ts : List Tk} (h : OwnT w base e g n cap ts) (hb : Below w.heap.size w W) : OwnT W base e g n cap ts := by
  have hlt := (ownT_lt h).1
  refine ⟨⟨h.1.1, ?_⟩, h.2⟩
  rcases h.1.2 with k | ⟨g', cap', cur, hv, hbase, hg, hr⟩
  · exact .inl k
  · simp only [Value.slice.injEq, Option.some.injEq, Addr.mk.injEq, and_true, true_and] at hv
    obtain ⟨rfl, rfl⟩ := hv
    exact .inr ⟨g, cap, cur, rfl, hbase, (hb.block g hlt).trans hg, hr⟩
theorem ownT_nil (w : World) (e : TypeId) (base : Nat) (hb : base ≤ w.heap.size) : OwnT (w.alloc (.cells #[] e)) base e w.heap.size 0 0 [] :=
  ⟨World.ownsRow_lit w #[] 0 hb (by unfold maxLen; omega) rfl, rfl⟩
theorem app_tok {P : Program} (w : World) {ops : Array Oper} {rest : List Oper} {o : Oper} {a : Act} {Q : Exit → Act → World → Prop} (hgd : o.guard = none) (s x : Operand) (t : TypeId)
    (ho : o.op = .call { callee := .builtin .append, args := #[s, x], argTypes := #[t, t] })
    (base : Nat) (e : TypeId) (i : TypeInfo) (z : Value) (ht : P.underlying t = some (.slice e)) (hi : P.info? e = some i) (hz : i.zero = some z) (hsize : i.size = 4) (hby : i.bytes = 40) (hzs : z.cells.size = 4)
    (g n cap : Nat) (ts : List Tk) (hs : a.eval s = .slice (some ⟨g, 0, none⟩) n cap) (hown : OwnT w base e g n cap ts)
    (b : Tk) (gx : Nat) (hgx : gx = w.heap.size) (hx : a.eval x = .slice (some ⟨gx, 0, none⟩) 1 1) (hn : n + 1 ≤ 1000000) (hbase : base ≤ w.heap.size)
    (h : ∀ g' cap' w', OwnT w' base e g' (n + 1) cap' (ts ++ [b]) → Below base w w' → wpList P ops Q rest (a.put o.dst (.slice (some ⟨g', 0, none⟩) (n + 1) cap')) w') :
    wpList P ops Q (o :: rest) a (w.alloc (.cells #[.int .i64 b.kind, .string b.text, .int .i64 b.num, .int .i64 b.pos] e)) := by
  subst hgx
  refine wpList_append_own _ hgd s x t ho base e i z 4 40 ht hi hz hsize hby hzs (by decide) _ n _ hs (hown.1.alloc _) ⟨w.heap.size, 0, none⟩ 1 1 (tkL b) hx rfl ?_ ?_ ?_ ?_ ?_ ?_
  · intro j u hj
    match j, hj with
    | 0, hj => simp [tkL] at hj; subst hj; simp [Addr.add]
    | 1, hj => simp [tkL] at hj; subst hj; simp [Addr.add]
    | 2, hj => simp [tkL] at hj; subst hj; simp [Addr.add]
    | 3, hj => simp [tkL] at hj; subst hj; simp [Addr.add]
    | j + 4, hj => simp [tkL] at hj
  · intro u hu
    simp [tkL] at hu
    rcases hu with rfl | rfl | rfl | rfl <;> rfl
  · unfold maxLen; omega
  · omega
  · simp; omega
  · intro v' w' h1 h2 h3
    have hb : Below base w w' := ((Below.refl base w).alloc hbase _).grown h2 (by simp; omega) (own_block_ge hown.1)
    rcases h1.2 with ⟨hv, _⟩ | ⟨g', cap', cur, rfl, hrest⟩
    · have := (h3.1 hv).1
      simp at this
    · refine h g' cap' w' ⟨?_, by rw [List.length_append]; have := hown.2; simp; omega⟩ hb
      rw [List.flatMap_append]
      simpa using h1
end Go.Proofs.Ytdbpknmoacjodaa
namespace Go.Proofs.Ytdbpknmoacjodaa
open Go.RowKit Go.PlainAid Go.Sort

def mdig : Nat → Nat → ByteArray → ByteArray
  | 0, _, o => o
  | f + 1, k, o => if k = 0 then o else mdig f (k / 10) (strOfNums [48 + (k : Int) % 10] ++ o)
def mtS (k : Nat) : ByteArray := { data := #[109] } ++ mdig k k { data := #[] }
theorem mdig_zero (f : Nat) (o : ByteArray) : mdig f 0 o = o := by cases f <;> rfl
theorem mdig_step {f k : Nat} {o : ByteArray} (h : k ≤ f) (hk : 0 < k) : ∃ f', k / 10 ≤ f' ∧ mdig f k o = mdig f' (k / 10) (strOfNums [48 + (k : Int) % 10] ++ o) := by
  match f, h with
  | 0, h => omega
  | f + 1, h => exact ⟨f, by omega, by rw [mdig, if_neg (by omega)]⟩
set_option maxHeartbeats 1600000 in
theorem markText_far (k0 : Nat) (w : World) (_ : 0 < k0) (h1 : k0 ≤ 8000000) :
    Calls Try.prog 71 #[.int .i64 k0] w fun e w' => e = .returned (.string (mtS k0)) ∧ Below w.heap.size w w' := by
  go_enter Try.func71, Try.ntmps71
  go_wp2
  go_loopw [0, 3] (fun i o wr => ∃ (k f m : Nat) (x : ByteArray), i = .int .i64 k ∧ o = .string x ∧ k ≤ f ∧ k ≤ 8000000 ∧ mdig f k x = mdig k0 k0 { data := #[] } ∧ x.size ≤ m ∧ k + m ≤ 8000000 ∧ Below w.heap.size w wr) (fun i _ _ => (intOf i).toNat)
  case atStart => exact ⟨k0, k0, 0, _, rfl, rfl, Nat.le_refl _, h1, rfl, Nat.le_refl _, by omega, Below.refl _ _⟩
  case round =>
    obtain ⟨k, f, m, x, rfl, rfl, hkf, hk1, hd, hx, hxm, hb⟩ := hrel
    have HD : Hid (mdig f k x = mdig k0 k0 { data := #[] }) := hd
    clear hd
    by_cases hk : 0 < k
    · obtain ⟨f', hf', hst⟩ := mdig_step (o := x) hkf hk
      have HN : Hid (mdig f' (k / 10) (strOfNums [48 + (k : Int) % 10] ++ x) = mdig k0 k0 { data := #[] }) := hst.symm.trans HD.out
      have hst := fun (w : World) (x : Int) => run_string_one (P := Try.prog) (src := 59) (dst := 9) Try.underlying59 Try.underlying5 Try.underlying9 w x
      have hone := fun x => strOfNums_size [x]
      have hdv : k / 10 + 1 ≤ k := by omega
      go_wp2
      go_roundw
      case rel => exact ⟨k / 10, f', m + 1, _, by go_num, rfl, hf', by omega, HN.out, by rw [ByteArray.size_append, hone]; simp; omega, by omega, hb.alloc hb.size _⟩
      case measure => simp [intOf]; omega
    · obtain rfl : k = 0 := by omega
      have HE : Hid (x = mdig k0 k0 { data := #[] }) := by have := HD.out; rw [mdig_zero] at this; exact this
      go_wp2
      go_ret
      exact ⟨ret_str (by rw [HE.out]; rfl), hb⟩
theorem markText_any (k0 : Nat) (w : World) (h0 : 0 < k0) (h1 : k0 ≤ 100000) :
    Calls Try.prog 71 #[.int .i64 k0] w fun e w' => e = .returned (.string (mtS k0)) ∧ Below w.heap.size w w' := markText_far k0 w h0 (by omega)
end Go.Proofs.Ytdbpknmoacjodaa
namespace Go.Proofs.Ytdbpknmoacjodaa
open Go.RowKit Go.PlainAid Go.Sort

def OwnM (w : World) (base : Nat) (e : TypeId) (size g n cap k0 c : Nat) : Prop := ∃ xs, w.ownsRow base e size (.slice (some ⟨g, 0, none⟩) n cap) n xs ∧ ∀ i, i < c → xs[i]? = some (.string (mtS (k0 + i)))
theorem OwnM.start {w : World} {base size g n cap : Nat} {e : TypeId} {xs : List Value} (h : w.ownsRow base e size (.slice (some ⟨g, 0, none⟩) n cap) n xs) (k0 : Nat) : OwnM w base e size g n cap k0 0 := ⟨xs, h, fun i hi => absurd hi (Nat.not_lt_zero i)⟩
theorem OwnM.blk {w : World} {base size g n cap k0 c : Nat} {e : TypeId} (h : OwnM w base e size g n cap k0 c) : base ≤ g ∧ g < w.heap.size := by
  obtain ⟨xs, h1, _⟩ := h
  rcases h1.2 with ⟨h', _⟩ | ⟨g', cap', cur, h', hb, hg, _⟩
  · simp at h'
  · simp only [Value.slice.injEq, Option.some.injEq, Addr.mk.injEq, and_true, true_and] at h'
    obtain ⟨rfl, rfl⟩ := h'
    exact ⟨hb, (Array.getElem?_eq_some_iff.1 hg).1⟩
theorem OwnM.keep {w W : World} {base size g n cap k0 c : Nat} {e : TypeId} (h : OwnM w base e size g n cap k0 c) (hk : W.heap[g]? = w.heap[g]?) : OwnM W base e size g n cap k0 c := by
  obtain ⟨xs, h1, h2⟩ := h
  refine ⟨xs, ⟨h1.1, ?_⟩, h2⟩
  rcases h1.2 with ⟨h', _⟩ | ⟨g', cap', cur, h', hbs, hg, hr⟩
  · simp at h'
  · simp only [Value.slice.injEq, Option.some.injEq, Addr.mk.injEq, and_true, true_and] at h'
    obtain ⟨rfl, rfl⟩ := h'
    exact .inr ⟨g, cap, cur, rfl, hbs, hk.trans hg, hr⟩
theorem OwnM.later {w W : World} {base size g n cap k0 c : Nat} {e : TypeId} (h : OwnM w base e size g n cap k0 c) (hb : Below w.heap.size w W) : OwnM W base e size g n cap k0 c := h.keep (hb.block g h.blk.2)
theorem OwnM.has {w : World} {base size g n cap k0 c : Nat} {e : TypeId} (h : OwnM w base e size g n cap k0 c) (i : Nat) (hi : i < n * size) : ∃ v, w.cell? ⟨g, i, none⟩ = some v := by
  obtain ⟨xs, h1, _⟩ := h
  rw [h1.cellAt i hi]
  exact ⟨_, List.getElem?_eq_getElem (by rw [h1.1]; exact hi)⟩
theorem OwnM.cell {w : World} {base size g n cap k0 c : Nat} {e : TypeId} (h : OwnM w base e size g n cap k0 c) (i q : Nat) (hi : i < n * size) (hc : i < c) (hq : q = k0 + i) : w.cell? ⟨g, i, none⟩ = some (.string (mtS q)) := by
  obtain ⟨xs, h1, h2⟩ := h
  rw [h1.cellAt i hi, hq]
  exact h2 i hc
theorem OwnM.free {w : World} {base size g n cap k0 c : Nat} {e : TypeId} (h : OwnM w base e size g n cap k0 c) (i : Nat) : w.frozen? ⟨g, i, none⟩ = false := by
  obtain ⟨xs, h1, _⟩ := h
  exact h1.frozenAt i
theorem OwnM.put {w : World} {base size g n cap k0 c q : Nat} {e : TypeId} (h : OwnM w base e size g n cap k0 c) (hc : c < n * size) (hq : q = k0 + c) : OwnM (w.setCell ⟨g, c, none⟩ (.string (mtS q))) base e size g n cap k0 (c + 1) := by
  subst hq
  obtain ⟨xs, h1, h2⟩ := h
  have hl := h1.1
  refine ⟨xs.set c (.string (mtS (k0 + c))), (h1.stored c _).1, fun i hi => ?_⟩
  by_cases e : i = c
  · subst e
    exact List.getElem?_set_self (by omega)
  · rw [List.getElem?_set_ne (by omega)]
    exact h2 i (by omega)
theorem OwnM.nil {w : World} {base size g cap k0 c : Nat} {e : TypeId} (h : OwnM w base e size g 0 cap k0 0) (hc : c = 0) : OwnM w base e size g 0 cap k0 c := by rw [hc]; exact h
theorem gm_refl (w : World) (b : Option Nat) : w.grownBy w b := ⟨rfl, rfl, rfl, Nat.le_refl _, fun _ _ _ => rfl⟩
theorem gm_trans {w w1 w2 : World} {b : Option Nat} (h : w.grownBy w1 b) (k : w1.grownBy w2 b) : w.grownBy w2 b :=
  ⟨k.os.trans h.os, k.tape.trans h.tape, k.output.trans h.output, Nat.le_trans h.size k.size, fun i hi hn => (k.block i (Nat.lt_of_lt_of_le hi h.size) hn).trans (h.block i hi hn)⟩
theorem gm_below {w w1 w2 : World} {b : Option Nat} (h : w.grownBy w1 b) (k : Below w1.heap.size w1 w2) : w.grownBy w2 b :=
  gm_trans h ⟨k.os, k.tape, k.output, k.size, fun i hi _ => k.block i hi⟩
theorem gm_set {w w1 : World} {g i : Nat} {u : Value} (h : w.grownBy w1 (some g)) : w.grownBy (w1.setCell ⟨g, i, none⟩ u) (some g) :=
  gm_trans h ⟨rfl, rfl, rfl, by show _ ≤ (w1.heap.modify _ _).size; simp, fun k _ hn => Below.heap_setCell w1 ⟨g, i, none⟩ u k (fun e => hn (by rw [e]))⟩
end Go.Proofs.Ytdbpknmoacjodaa
