/-
  What spec.Lex answers: the walk.
-/
import Derived.Test.YtkplighmefigcaaBase0
import Derived.Test.YtkplighmefigcaaSpecLex
import Derived.Test.YtkplighmefigcaaTokMem
namespace Go.Proofs.Ytkplighmefigcaa
open Go.RowKit Go.PlainAid

theorem Try.infoTok : (Try.prog.info? 31).map (fun i => (i.zero, i.size, i.bytes)) = some (some (.agg #[.int .i64 0, .string { data := #[] }, .int .i64 0, .int .i64 0]), 4, 40) := by kernel_rfl
def LexOut (s : ByteArray) (scr : Bool) (w : World) (e : Ending) (w' : World) : Prop :=
  ∃ r, LexR s scr r ∧ match r with
    | .ok ts => ∃ g n cap, e = .returned (.tuple #[.slice (some ⟨g, 0, none⟩) n cap, .int .i64 (-1)]) ∧ OwnT w' w.heap.size 31 g n cap ts
    | .error p => ∃ g cap, e = .returned (.tuple #[.slice (some ⟨g, 0, none⟩) 0 cap, .int .i64 p]) ∧ OwnT w' w.heap.size 31 g 0 cap []
theorem lex_error {s : ByteArray} {scr : Bool} {k n : Nat} {ts : List Tk} (h : ∀ r, Lx s scr k n r → LexR s scr (r.map (ts ++ ·))) (hk : k < s.size) (hb : 4000 ≤ n ∨ ∀ t e, ¬ Tok s scr k t e) : LexR s scr (.error k) := h _ (.bad hk hb)
theorem lex_done {s : ByteArray} {scr : Bool} {k n : Nat} {ts : List Tk} (h : ∀ r, Lx s scr k n r → LexR s scr (r.map (ts ++ ·))) (hk : k = s.size) : LexR s scr (.ok ts) := by
  subst hk
  have := h _ .done
  simpa [Except.map] using this
theorem lex_next {s : ByteArray} {scr : Bool} {k n e b : Nat} {t : Tk} {ts : List Tk} (h : ∀ r, Lx s scr k n r → LexR s scr (r.map (ts ++ ·))) (hk : k < s.size) (hn : n < 4000) (ht : Tok s scr k t e) (hs : Skip s e b) :
    ∀ r, Lx s scr b (n + 1) r → LexR s scr (r.map ((ts ++ [t]) ++ ·)) := by
  intro r hr
  have := h _ (.tok hk hn ht hs hr)
  cases r <;> simpa [Except.map] using this

theorem ownT_nil2 {w : World} {o : Obj} {e : TypeId} {base : Nat} (hb : base ≤ w.heap.size) : OwnT ((w.alloc o).alloc (.cells #[] e)) base e (w.heap.size + 1) 0 0 [] := by
  have := ownT_nil (w.alloc o) e base (by rw [alloc_size]; omega)
  rw [alloc_size] at this
  exact this

set_option maxRecDepth 100000 in
set_option maxHeartbeats 3200000 in
theorem lex_spec (s : ByteArray) (scr : Bool) (w : World) (hs : s.size ≤ 4294967296) :
    Calls Try.prog 9 #[.string s, .bool scr] w fun e w' => LexOut s scr w e w' ∧ Below w.heap.size w w' := by
  obtain ⟨i0, hi, hz0, hz1, hz2⟩ := info_parts Try.infoTok
  go_enter Try.func9, Try.ntmps9
  go_wp2_with fail
  refine (skip_spec _ 0 _ (Nat.zero_le _) hs).mono ?_
  rintro e w' ⟨k0, rfl, hsk, rfl⟩
  have HSK : Hid (Skip s 0 k0) := hsk
  have hk0 := (skip_bd hsk).2
  clear hsk
  go_wp2
  go_loopw [6, 7, 8, 9] (fun o i _ _ wr => ∃ (k n g cap : Nat) (ts : List Tk), k ≤ s.size ∧ n ≤ 4000 ∧ i = .int .i64 k ∧ o = .slice (some ⟨g, 0, none⟩) n cap ∧ OwnT wr w.heap.size 31 g n cap ts ∧ (∀ r, Lx s scr k n r → LexR s scr (r.map (ts ++ ·))) ∧ Below w.heap.size w wr) (fun _ i _ _ _ => (s.size - intOf i).toNat)
  case atStart => exact ⟨k0, 0, w.heap.size, 0, [], hk0, by omega, rfl, rfl, ownT_nil w _ _ (Nat.le_refl _), fun r hr => ⟨k0, HSK.out, by cases r <;> simpa [Except.map] using hr⟩, (Below.refl _ _).alloc (Nat.le_refl _) _⟩
  case round =>
    obtain ⟨k, n, g, cap, ts, hk, hn, rfl, rfl, hown, hlx, hb⟩ := hrel
    have HLX : Hid (∀ r, Lx s scr k n r → LexR s scr (r.map (ts ++ ·))) := hlx
    have hcp := ownT_lt hown
    clear hlx
    by_cases hlt : k < s.size
    · go_wp2_with fail
      refine (token_spec _ _ _ _ hlt hs).mono ?_
      rintro e w1 ⟨v, z, rfl, hout, hb1⟩
      have hb2 := hb.trans (hb1.mono hb.size)
      have hown1 := ownT_later hown hb1
      rcases hout with ⟨⟨kd, tx, nm, ps⟩, m, rfl, rfl, ht⟩ | ⟨rfl, ⟨c1, c2, c3, c4, rfl⟩, hno⟩
      · have HT : Hid (Tok s scr k ⟨kd, tx, nm, ps⟩ m) := ht
        have hm1 := (tok_end hlt ht).1
        have hm2 := (tok_end hlt ht).2.1
        clear ht
        by_cases hn4 : n < 4000
        · have q4 : decide ((4000 : Int) ≤ (n : Int)) = false := decide_eq_false (by omega)
          obtain ⟨W, hW⟩ : ∃ W, W = w1.alloc (.cells #[.int .i64 kd, .string tx, .int .i64 nm, .int .i64 ps] 31) := ⟨_, rfl⟩
          have HW : Hid (W = w1.alloc (.cells #[.int .i64 kd, .string tx, .int .i64 nm, .int .i64 ps] 31)) := hW
          have hbW : Below w.heap.size w W := by rw [hW]; exact hb2.alloc hb2.size _
          have hownW : OwnT W w.heap.size 31 g n cap ts := by rw [hW]; exact ownT_later hown1 ((Below.refl _ _).alloc (Nat.le_refl _) _)
          have hszW := hbW.size
          have HGX : Hid (w1.heap.size + 1 = W.heap.size) := by show _ = _; rw [hW, alloc_size]
          clear hW
          simp only [tkV]
          go_wp2_with (first | (at_builtin; rw [← HW.out]; refine app_tok W rfl _ _ 27 rfl w.heap.size 31 i0 _ Try.underlying27 hi hz0 hz1 hz2 rfl g n cap ts (by rfl) hownW ⟨kd, tx, nm, ps⟩ (w1.heap.size + 1) HGX.out (by rfl) (by omega) hszW ?_))
          intro g2 cap2 w2 hown2 hb3
          have hb4 := hbW.trans hb3
          go_wp2_with fail
          refine (skip_spec _ m _ hm2 hs).mono ?_
          rintro e w3 ⟨b, rfl, hsk, rfl⟩
          have HX : Hid (∀ r, Lx s scr b (n + 1) r → LexR s scr (r.map ((ts ++ [⟨kd, tx, nm, ps⟩]) ++ ·))) := lex_next HLX.out hlt hn4 HT.out hsk
          have hs1 := (skip_bd hsk).1
          have hs2 := (skip_bd hsk).2
          clear hsk
          go_wp2
          go_roundw
          case rel => exact ⟨b, n + 1, g2, cap2, ts ++ [⟨kd, tx, nm, ps⟩], hs2, by omega, rfl, rfl, hown2, HX.out, hb4⟩
          case measure => simp [intOf]; omega
        · have q4 : decide ((4000 : Int) ≤ (n : Int)) = true := decide_eq_true (by omega)
          have HE : Hid (LexR s scr (.error k)) := lex_error HLX.out hlt (.inl (by omega))
          simp only [tkV]
          go_wp2
          go_ret2
          exact ⟨⟨_, HE.out, _, _, rfl, ownT_nil2 hb2.size⟩, (hb2.alloc hb2.size _).alloc (by rw [alloc_size]; have := hb2.size; omega) _⟩
      · have HE : Hid (LexR s scr (.error k)) := lex_error HLX.out hlt (.inr hno)
        go_wp2
        go_ret2
        exact ⟨⟨_, HE.out, _, _, rfl, ownT_nil2 hb2.size⟩, (hb2.alloc hb2.size _).alloc (by rw [alloc_size]; have := hb2.size; omega) _⟩
    · have HE : Hid (LexR s scr (.ok ts)) := lex_done HLX.out (by omega)
      go_wp2
      go_ret2
      exact ⟨⟨_, HE.out, g, n, cap, rfl, hown⟩, hb⟩
end Go.Proofs.Ytkplighmefigcaa
