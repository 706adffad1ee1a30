/-
  What spec.PutFile answers: the walk.
  What spec.PutFile answers: the walk.
  Tokens of a text, as plain relations: where a run of bytes ends, which token stands at a place, what is passed over, and that each of these is one alone. No program is spoken of.
  A row of tokens in memory, and appending one. No program is spoken of.
  What markText of the laws answers: the walk.
  Rows of texts of the call's own that are marked cell by cell, without a program's rows. No program is spoken of but for markText.
-/
import Derived.Deep.CutBlock
import Derived.Test.YtdbpknmoacjodaaCpFilesMath
import Derived.Test.YtdbpknmoacjodaaCpSpecFiles
import Derived.Test.YtdbpknmoacjodaaCpCandMath
namespace Go.Proofs.Ytdbpknmoacjodaa
open Go.RowKit Go.PlainAid Go.Sort

structure PutW (w wr : World) (e : TypeId) (g n cap : Nat) (out : List Fl) (gx : Nat) (x : Fl) : Prop where
  out : OwnFl wr w.heap.size e g n cap out
  box : wr.heap[gx]? = some (.cells #[.string x.1, .string x.2] e (0, 0))
  ne : g ≠ gx
  bel : Below w.heap.size w wr
theorem PutW.later {w wr W : World} {e : TypeId} {g n cap gx : Nat} {out : List Fl} {x : Fl} (h : PutW w wr e g n cap out gx x) (hb : Below wr.heap.size wr W) : PutW w W e g n cap out gx x :=
  ⟨ownFl_later h.out hb, (hb.block gx (Array.getElem?_eq_some_iff.1 h.box).1).trans h.box, h.ne, h.bel.trans (hb.mono h.bel.size)⟩
theorem PutW.grow {w wr W : World} {e : TypeId} {g n cap gx g' cap' : Nat} {out ys : List Fl} {x : Fl} (h : PutW w wr e g n cap out gx x) (ho : OwnFl W w.heap.size e g' (n + 1) cap' ys) (k : wr.grownBy W (some g)) (hg : g' = g ∨ wr.heap.size < g') : PutW w W e g' (n + 1) cap' ys gx x := by
  have hx := (Array.getElem?_eq_some_iff.1 h.box).1
  refine ⟨ho, (k.block gx hx (fun e => h.ne (Option.some.inj e).symm)).trans h.box, ?_, h.bel.grown k h.bel.size (fun j hj => by cases hj; exact (ownFl_blk h.out).1)⟩
  rcases hg with rfl | hg
  · exact h.ne
  · omega
theorem PutW.cells {w wr : World} {e : TypeId} {g n cap gx : Nat} {out : List Fl} {x : Fl} (h : PutW w wr e g n cap out gx x) : wr.cell? ⟨gx, 0, none⟩ = some (.string x.1) ∧ wr.cell? ⟨gx, 1, none⟩ = some (.string x.2) ∧ gx < wr.heap.size := by
  refine ⟨?_, ?_, (Array.getElem?_eq_some_iff.1 h.box).1⟩
  · simp [World.cell?, h.box]
  · simp [World.cell?, h.box]
end Go.Proofs.Ytdbpknmoacjodaa
namespace Go.Proofs.Ytdbpknmoacjodaa
open Go.RowKit Go.PlainAid Go.Sort

theorem put_mem (x : Fl) (fs : List Fl) : ∀ (st : Bool × List Fl) (y : Fl), y ∈ (fs.foldl (putStep x) st).2 → y ∈ st.2 ∨ y = x ∨ y ∈ fs := by
  induction fs with
  | nil => intro st y h; exact .inl h
  | cons z fs ih =>
    intro st y h
    rcases ih _ y h with h | h | h
    · have : y ∈ st.2 ∨ y = x ∨ y = z := by
        unfold putStep at h
        split at h
        · split at h
          · simp at h
            rcases h with h | h
            · exact .inl h
            · exact .inr (.inl h)
          · exact .inl h
        · split at h
          · simp at h
            rcases h with h | h | h
            · exact .inl h
            · exact .inr (.inl h)
            · exact .inr (.inr h)
          · simp at h
            rcases h with h | h
            · exact .inl h
            · exact .inr (.inr h)
      rcases this with h | h | h
      · exact .inl h
      · exact .inr (.inl h)
      · exact .inr (.inr (by rw [h]; exact List.mem_cons_self ..))
    · exact .inr (.inl h)
    · exact .inr (.inr (List.mem_cons_of_mem _ h))
theorem putFs_mem {fs : List Fl} {x y : Fl} (h : y ∈ putFs fs x) : y = x ∨ y ∈ fs := by
  have one : y ∈ (fs.foldl (putStep x) (false, [])).2 → y = x ∨ y ∈ fs := fun h => by
    rcases put_mem x fs (false, []) y h with h | h | h
    · cases h
    · exact .inl h
    · exact .inr h
  unfold putFs at h
  split at h
  · exact one h
  · rcases List.mem_append.1 h with h | h
    · exact one h
    · exact .inl (List.mem_singleton.1 h)
theorem fl_ones (fs : List Fl) : ∀ u ∈ fs.flatMap flL, u.oneCell' = true := by
  intro u hu
  obtain ⟨x, _, h⟩ := List.mem_flatMap.1 hu
  simp [flL] at h
  rcases h with rfl | rfl <;> rfl
theorem fl_flat_inv (fs : List Fl) {j : Nat} {u : Value} (h : (fs.flatMap flL)[j]? = some u) : ∃ x, fs[j / 2]? = some x ∧ (flL x)[j % 2]? = some u := by
  have hl := fl_flat_len fs
  have hj := (List.getElem?_eq_some_iff.1 h).1
  have hk : j / 2 < fs.length := by omega
  refine ⟨fs[j / 2], List.getElem?_eq_getElem hk, ?_⟩
  have := fl_flat fs (j / 2) (j % 2) _ (by omega) (List.getElem?_eq_getElem hk)
  rw [show j / 2 * 2 + j % 2 = j from by omega, h] at this
  exact this.symm
theorem app_files {P : Program} (w : World) {ops : Array Oper} {rest : List Oper} {o : Oper} {a : Act} {Q : Exit → Act → World → Prop} (hgd : o.guard = none) (s x : Operand) (t : TypeId)
    (ho : o.op = .call { callee := .builtin .append, args := #[s, x], argTypes := #[t, t] })
    (base : Nat) (e : TypeId) (i : TypeInfo) (z : Value) (ht : P.underlying t = some (.slice e)) (hi : P.info? e = some i) (hz : i.zero = some z) (hsize : i.size = 2) (hby : i.bytes = 32) (hzs : z.cells.size = 2)
    (g0 : Nat) (hs : a.eval s = .slice (some ⟨g0, 0, none⟩) 0 0) (hown : OwnFl w base e g0 0 0 []) (g len : Nat) (Pt Tx : Nat → ByteArray) (hx : a.eval x = .slice (some ⟨g, 0, none⟩) len len) (hf : FilesAt w (some ⟨g, 0, none⟩) g 0 len Pt Tx) (hl : len ≤ 8) (hbase : base ≤ w.heap.size)
    (h : ∀ g' cap' w', OwnFl w' base e g' len cap' (flsOf len Pt Tx) → Below base w w' → wpList P ops Q rest (a.put o.dst (.slice (some ⟨g', 0, none⟩) len cap')) w') : wpList P ops Q (o :: rest) a w := by
  refine wpList_append_own _ hgd s x t ho base e i z 2 32 ht hi hz hsize hby hzs (by decide) _ 0 _ hs hown.1 ⟨g, 0, none⟩ len len ((flsOf len Pt Tx).flatMap flL) hx (by rw [fl_flat_len, flsOf_len]) ?_ (fl_ones _) (by unfold maxLen; omega) (by omega) hbase ?_
  · intro j u hj
    obtain ⟨y, h1, h2⟩ := fl_flat_inv _ hj
    have hlt : j / 2 < len := by have := (List.getElem?_eq_some_iff.1 h1).1; rw [flsOf_len] at this; exact this
    rw [flsOf_at hlt] at h1
    cases h1
    have e1 : (⟨g, 0, none⟩ : Addr).add j = ⟨g, j, none⟩ := by simp [Addr.add]; exact fun h => h.symm
    rw [e1]
    rcases Nat.mod_two_eq_zero_or_one j with m | m
    · rw [m] at h2
      cases h2
      have := hf.path _ hlt
      rw [Nat.zero_add, show j / 2 * 2 = j from by omega] at this
      exact this
    · rw [m] at h2
      cases h2
      have := hf.text _ hlt
      rw [Nat.zero_add, show j / 2 * 2 + 1 = j from by omega] at this
      exact this
  · intro v' w' k1 k2 k3
    have hb : Below base w w' := (Below.refl base w).grown k2 hbase (own_block_ge hown.1)
    rw [Nat.zero_add] at k1
    rcases k1.2 with ⟨hv, _⟩ | ⟨g', cap', cur, rfl, hrest⟩
    · have := (k3.1 hv).1
      simp at this
    · exact h g' cap' w' ⟨by simpa using k1, by rw [flsOf_len]⟩ hb
theorem fls_mem {len : Nat} {Pt Tx : Nat → ByteArray} {y : Fl} (h : y ∈ flsOf len Pt Tx) : ∃ j, j < len ∧ (Pt j, Tx j) = y := by
  unfold flsOf at h
  obtain ⟨j, hj, rfl⟩ := List.mem_map.1 h
  exact ⟨j, List.mem_range.1 hj, rfl⟩
set_option maxRecDepth 100000 in
set_option maxHeartbeats 6400000 in
theorem putFile_spec (g len : Nat) (Pt Tx : Nat → ByteArray) (xp xt : ByteArray) (w : World) (hf : FilesAt w (some ⟨g, 0, none⟩) g 0 len Pt Tx) (hl : len ≤ 1048576) (hp : ∀ j, j < len → (Pt j).size ≤ 1048576) (ht : ∀ j, j < len → (Tx j).size ≤ 1048576) (hxp : xp.size ≤ 1048576) (hxt : xt.size ≤ 1048576) :
    Calls Try.prog 18 #[.slice (some ⟨g, 0, none⟩) len len, .agg #[.string xp, .string xt]] w fun e w' => ∃ g' n cap, e = .returned (.tuple #[.slice (some ⟨g', 0, none⟩) n cap, .bool (putS len Pt Tx (xp, xt)).2]) ∧ OwnFl w' w.heap.size 52 g' n cap (putS len Pt Tx (xp, xt)).1 ∧ Below w.heap.size w w' := by
  obtain ⟨i0, hi, hz0, hz1, hz2⟩ := info_parts Try.infoFile
  have B0 : Hid (Below w.heap.size w (w.alloc (.cells #[.string xp, .string xt] 52))) := (Below.refl _ _).alloc (Nat.le_refl _) _
  have F0 := hidU hf
  have X0 : Hid ((w.alloc (.cells #[.string xp, .string xt] 52)).heap[w.heap.size]? = some (.cells #[.string xp, .string xt] 52 (0, 0))) := heap_alloc_new w _
  clear hf
  cases hfb : filesB len Pt Tx with
  | false =>
    have HV : Hid (putS len Pt Tx (xp, xt) = ([], false)) := by show putS len Pt Tx (xp, xt) = _; rw [putS, hfb]; rfl
    go_enter Try.func18, Try.ntmps18
    go_wp2_with fail
    refine (filesOk_spec g len Pt Tx _ (F0.out.later B0.out) hl hp ht).mono ?_
    rintro e w1 ⟨rfl, hb1⟩
    rw [hfb]
    have B1 := hidU (B0.out.trans (hb1.mono B0.out.size))
    go_wp2
    go_ret2
    exact ⟨w1.heap.size, 0, 0, by show Ending.returned (.tuple #[.slice (some ⟨w1.heap.size, 0, none⟩) 0 0, .bool false]) = _; rw [HV.out], by rw [HV.out]; exact ownFl_low (ownFl_nil w1 _) B1.out.size, B1.out.alloc B1.out.size _⟩
  | true =>
    have hl8 : len ≤ 8 := (filesB_iff.1 hfb).1
    go_enter Try.func18, Try.ntmps18
    go_upto_region 1 with fail
    go_wp2_with fail
    refine (filesOk_spec g len Pt Tx _ (F0.out.later B0.out) hl hp ht).mono ?_
    rintro e w1 ⟨rfl, hb1⟩
    rw [hfb]
    have B1 := hidU (B0.out.trans (hb1.mono B0.out.size))
    have X1 := hidU ((hb1.block _ (Array.getElem?_eq_some_iff.1 X0.out).1).trans X0.out)
    have hs1 : w.heap.size < w1.heap.size := (Array.getElem?_eq_some_iff.1 X1.out).1
    clear hb1
    go_upto_region 4 with fail
    refine world_anyU (R := fun W => PutW w W 52 w1.heap.size 0 0 [] w.heap.size (xp, xt)) ⟨ownFl_low (ownFl_nil w1 _) B1.out.size, ((((Below.refl w1.heap.size w1).alloc (Nat.le_refl _) _ : Below w1.heap.size w1 (w1.alloc (.cells #[] 52)))).block _ hs1).trans X1.out, by omega, B1.out.alloc B1.out.size _⟩ ?_
    obtain ⟨g0, hg0⟩ : ∃ g0, g0 = w1.heap.size := ⟨_, rfl⟩
    obtain ⟨gx, hgx⟩ : ∃ gx, gx = w.heap.size := ⟨_, rfl⟩
    rw [← hg0, ← hgx]
    intro w2 h2
    have P2 := hidU h2
    have HG := hidU hgx
    clear h2 B0 X0 B1 X1 hs1 hg0 hgx
    go_wp2
    go_loopw [6, 7, 8] (fun o p i wr => ∃ (k g' n cap : Nat) (b : Bool) (out : List Fl), k ≤ len ∧ i = .int .i64 k ∧ p = .bool b ∧ o = .slice (some ⟨g', 0, none⟩) n cap ∧ ((flsOf len Pt Tx).take k).foldl (putStep (xp, xt)) (false, []) = (b, out) ∧ PutW w wr 52 g' n cap out gx (xp, xt) ∧ n ≤ 2 * k) (fun _ _ i _ => (len - intOf i).toNat)
    case atStart => exact ⟨0, g0, 0, 0, false, [], Nat.zero_le _, rfl, rfl, rfl, rfl, P2.out, by omega⟩
    case round =>
      obtain ⟨k, g', n, cap, b, out, hk, rfl, rfl, rfl, hst, hpw, hn⟩ := hrel
      have HS := hidU hst
      have PW := hidU hpw
      clear hst
      by_cases hlt : k < len
      · have hf' := F0.out.later hpw.bel
        have c0 := hf'.path k hlt
        have c1 := hf'.text k hlt
        rw [Nat.zero_add] at c0 c1
        have C0 := hidU c0
        have C1 := hidU c1
        have X0 := hidU hpw.cells.1
        have hgw : g < wr.heap.size := Nat.lt_of_lt_of_le (F0.out.lt (by omega)) hpw.bel.size
        have hgxw : gx < wr.heap.size := hpw.cells.2.2
        have HF : Hid (((flsOf len Pt Tx).take (k + 1)).foldl (putStep (xp, xt)) (false, []) = putStep (xp, xt) (b, out) (Pt k, Tx k)) := by
          show _ = _
          rw [fold_take _ _ (flsOf_at (Pt := Pt) (Tx := Tx) hlt), HS.out]
        clear hf' c0 c1 hpw
        cases heq : (Pt k).toList == xp.toList with
        | true =>
          have heq2 : (!((Pt k).toList == xp.toList)) = false := by rw [heq]; rfl
          cases b with
          | true =>
            have HE : Hid (((flsOf len Pt Tx).take (k + 1)).foldl (putStep (xp, xt)) (false, []) = (true, out)) := by
              show _ = _
              rw [HF.out]
              simp [putStep, heq]
            go_wp2
            have k0 := cell_regrown C0.out
            have k1 := cell_regrown X0.out
            refine wp_region_quiet_below (by kernel_rfl) (by kernel_rfl) ?_
            repeat (go_big_quiet_step (fail))
            refine wpQuiet_nil ?_
            intro _ hw'
            obtain ⟨⟨dq, osq⟩, hw''⟩ := hw'
            subst hw''
            have hbq := below_regrown wr dq osq
            have PA := hidU (PW.out.later hbq)
            have C0PA := hidU ((hbq.cell hgw).trans C0.out)
            have C1PA := hidU ((hbq.cell hgw).trans C1.out)
            have X0PA := hidU ((hbq.cell hgxw).trans X0.out)
            replace hgw := Nat.lt_of_lt_of_le hgw hbq.size
            replace hgxw := Nat.lt_of_lt_of_le hgxw hbq.size
            clear k0 k1 hbq
            generalize grow (redrawn wr dq) osq = wa at PA C0PA C1PA X0PA hgw hgxw ⊢
            go_wp2
            have k0 := cell_regrown C0PA.out
            have k1 := cell_regrown X0PA.out
            refine wp_region_quiet_below (by kernel_rfl) (by kernel_rfl) ?_
            repeat (go_big_quiet_step (fail))
            refine wpQuiet_nil ?_
            intro _ hw'
            obtain ⟨⟨dq, osq⟩, hw''⟩ := hw'
            subst hw''
            have hbq := below_regrown wa dq osq
            have PD := hidU (PA.out.later hbq)
            have C0PD := hidU ((hbq.cell hgw).trans C0PA.out)
            have C1PD := hidU ((hbq.cell hgw).trans C1PA.out)
            have X0PD := hidU ((hbq.cell hgxw).trans X0PA.out)
            replace hgw := Nat.lt_of_lt_of_le hgw hbq.size
            replace hgxw := Nat.lt_of_lt_of_le hgxw hbq.size
            clear k0 k1 hbq
            generalize grow (redrawn wa dq) osq = wd at PD C0PD C1PD X0PD hgw hgxw ⊢
            go_wp2
            go_roundw
            case rel => exact ⟨k + 1, g', n, cap, true, _, hlt, by go_num, rfl, rfl, HE.out, PD.out, by omega⟩
            case measure => simp [intOf]; omega
          | false =>
            cases hls : Op.bytesLess (Pt k).toList xp.toList with
            | true =>
              have HE : Hid (((flsOf len Pt Tx).take (k + 1)).foldl (putStep (xp, xt)) (false, []) = (false, out)) := by
                show _ = _
                rw [HF.out]
                simp [putStep, heq, hls]
              go_wp2
              have k0 := cell_regrown C0.out
              have k1 := cell_regrown X0.out
              refine wp_region_quiet_below (by kernel_rfl) (by kernel_rfl) ?_
              repeat (go_big_quiet_step (fail))
              refine wpQuiet_nil ?_
              intro _ hw'
              obtain ⟨⟨dq, osq⟩, hw''⟩ := hw'
              subst hw''
              have hbq := below_regrown wr dq osq
              have PA := hidU (PW.out.later hbq)
              have C0PA := hidU ((hbq.cell hgw).trans C0.out)
              have C1PA := hidU ((hbq.cell hgw).trans C1.out)
              have X0PA := hidU ((hbq.cell hgxw).trans X0.out)
              replace hgw := Nat.lt_of_lt_of_le hgw hbq.size
              replace hgxw := Nat.lt_of_lt_of_le hgxw hbq.size
              clear k0 k1 hbq
              generalize grow (redrawn wr dq) osq = wa at PA C0PA C1PA X0PA hgw hgxw ⊢
              go_wp2
              have k0 := cell_regrown C0PA.out
              have k1 := cell_regrown X0PA.out
              refine wp_region_quiet_below (by kernel_rfl) (by kernel_rfl) ?_
              repeat (go_big_quiet_step (fail))
              refine wpQuiet_nil ?_
              intro _ hw'
              obtain ⟨⟨dq, osq⟩, hw''⟩ := hw'
              subst hw''
              have hbq := below_regrown wa dq osq
              have PD := hidU (PA.out.later hbq)
              have C0PD := hidU ((hbq.cell hgw).trans C0PA.out)
              have C1PD := hidU ((hbq.cell hgw).trans C1PA.out)
              have X0PD := hidU ((hbq.cell hgxw).trans X0PA.out)
              replace hgw := Nat.lt_of_lt_of_le hgw hbq.size
              replace hgxw := Nat.lt_of_lt_of_le hgxw hbq.size
              clear k0 k1 hbq
              generalize grow (redrawn wa dq) osq = wd at PD C0PD C1PD X0PD hgw hgxw ⊢
              go_wp2
              go_roundw
              case rel => exact ⟨k + 1, g', n, cap, false, _, hlt, by go_num, rfl, rfl, HE.out, PD.out, by omega⟩
              case measure => simp [intOf]; omega
            | false =>
              have HE : Hid (((flsOf len Pt Tx).take (k + 1)).foldl (putStep (xp, xt)) (false, []) = (true, out ++ [(xp, xt)])) := by
                show _ = _
                rw [HF.out]
                simp [putStep, heq, hls]
              go_wp2
              have k0 := cell_regrown C0.out
              have k1 := cell_regrown X0.out
              refine wp_region_quiet_below (by kernel_rfl) (by kernel_rfl) ?_
              repeat (go_big_quiet_step (fail))
              refine wpQuiet_nil ?_
              intro _ hw'
              obtain ⟨⟨dq, osq⟩, hw''⟩ := hw'
              subst hw''
              have hbq := below_regrown wr dq osq
              have PA := hidU (PW.out.later hbq)
              have C0PA := hidU ((hbq.cell hgw).trans C0.out)
              have C1PA := hidU ((hbq.cell hgw).trans C1.out)
              have X0PA := hidU ((hbq.cell hgxw).trans X0.out)
              replace hgw := Nat.lt_of_lt_of_le hgw hbq.size
              replace hgxw := Nat.lt_of_lt_of_le hgxw hbq.size
              clear k0 k1 hbq
              generalize grow (redrawn wr dq) osq = wa at PA C0PA C1PA X0PA hgw hgxw ⊢
              have a0 := C0PA.out
              have a1 := C1PA.out
              obtain ⟨a2, a3, _⟩ := PA.out.cells
              go_wp2_with (at_builtin; refine app_file wa rfl _ _ 48 rfl w.heap.size 52 i0 _ Try.underlying48 hi hz0 hz1 hz2 rfl g' (n) cap _ (by rfl) PA.out.out (xp, xt) (by rfl) (by omega) ?_; intro g2 cap2 wb ho hg hat; have PB := hidU (PA.out.grow ho hg hat); have hgy : g < w.heap.size := F0.out.lt (by omega); have C0PB := hidU (((F0.out.later PB.out.bel).path k hlt)); have C1PB := hidU (((F0.out.later PB.out.bel).text k hlt)); rw [Nat.zero_add] at C0PB C1PB; have X0PB := hidU PB.out.cells.1; replace hgw := Nat.lt_of_lt_of_le hgy PB.out.bel.size; replace hgxw := PB.out.cells.2.2; clear ho hg hat a0 a1 a2 a3)
              go_wp2
              have k0 := cell_regrown C0PB.out
              have k1 := cell_regrown X0PB.out
              refine wp_region_quiet_below (by kernel_rfl) (by kernel_rfl) ?_
              repeat (go_big_quiet_step (fail))
              refine wpQuiet_nil ?_
              intro _ hw'
              obtain ⟨⟨dq, osq⟩, hw''⟩ := hw'
              subst hw''
              have hbq := below_regrown wb dq osq
              have PD := hidU (PB.out.later hbq)
              have C0PD := hidU ((hbq.cell hgw).trans C0PB.out)
              have C1PD := hidU ((hbq.cell hgw).trans C1PB.out)
              have X0PD := hidU ((hbq.cell hgxw).trans X0PB.out)
              replace hgw := Nat.lt_of_lt_of_le hgw hbq.size
              replace hgxw := Nat.lt_of_lt_of_le hgxw hbq.size
              clear k0 k1 hbq
              generalize grow (redrawn wb dq) osq = wd at PD C0PD C1PD X0PD hgw hgxw ⊢
              go_wp2
              go_roundw
              case rel => exact ⟨k + 1, g2, n + 1, cap2, true, _, hlt, by go_num, rfl, rfl, HE.out, PD.out, by omega⟩
              case measure => simp [intOf]; omega
        | false =>
          have heq2 : (!((Pt k).toList == xp.toList)) = true := by rw [heq]; rfl
          cases b with
          | true =>
            have HE : Hid (((flsOf len Pt Tx).take (k + 1)).foldl (putStep (xp, xt)) (false, []) = (true, out ++ [(Pt k, Tx k)])) := by
              show _ = _
              rw [HF.out]
              simp [putStep, heq]
            go_wp2
            have k0 := cell_regrown C0.out
            have k1 := cell_regrown X0.out
            refine wp_region_quiet_below (by kernel_rfl) (by kernel_rfl) ?_
            repeat (go_big_quiet_step (fail))
            refine wpQuiet_nil ?_
            intro _ hw'
            obtain ⟨⟨dq, osq⟩, hw''⟩ := hw'
            subst hw''
            have hbq := below_regrown wr dq osq
            have PA := hidU (PW.out.later hbq)
            have C0PA := hidU ((hbq.cell hgw).trans C0.out)
            have C1PA := hidU ((hbq.cell hgw).trans C1.out)
            have X0PA := hidU ((hbq.cell hgxw).trans X0.out)
            replace hgw := Nat.lt_of_lt_of_le hgw hbq.size
            replace hgxw := Nat.lt_of_lt_of_le hgxw hbq.size
            clear k0 k1 hbq
            generalize grow (redrawn wr dq) osq = wa at PA C0PA C1PA X0PA hgw hgxw ⊢
            go_wp2
            have k0 := cell_regrown C0PA.out
            have k1 := cell_regrown X0PA.out
            refine wp_region_quiet_below (by kernel_rfl) (by kernel_rfl) ?_
            repeat (go_big_quiet_step (fail))
            refine wpQuiet_nil ?_
            intro _ hw'
            obtain ⟨⟨dq, osq⟩, hw''⟩ := hw'
            subst hw''
            have hbq := below_regrown wa dq osq
            have PD := hidU (PA.out.later hbq)
            have C0PD := hidU ((hbq.cell hgw).trans C0PA.out)
            have C1PD := hidU ((hbq.cell hgw).trans C1PA.out)
            have X0PD := hidU ((hbq.cell hgxw).trans X0PA.out)
            replace hgw := Nat.lt_of_lt_of_le hgw hbq.size
            replace hgxw := Nat.lt_of_lt_of_le hgxw hbq.size
            clear k0 k1 hbq
            generalize grow (redrawn wa dq) osq = wd at PD C0PD C1PD X0PD hgw hgxw ⊢
            have a0 := C0PD.out
            have a1 := C1PD.out
            obtain ⟨a2, a3, _⟩ := PD.out.cells
            go_wp2_with (at_builtin; refine app_file wd rfl _ _ 48 rfl w.heap.size 52 i0 _ Try.underlying48 hi hz0 hz1 hz2 rfl g' (n) cap _ (by rfl) PD.out.out (Pt k, Tx k) (by rfl) (by omega) ?_; intro g3 cap3 we ho hg hat; have PE := hidU (PD.out.grow ho hg hat); have hgy : g < w.heap.size := F0.out.lt (by omega); have C0PE := hidU (((F0.out.later PE.out.bel).path k hlt)); have C1PE := hidU (((F0.out.later PE.out.bel).text k hlt)); rw [Nat.zero_add] at C0PE C1PE; have X0PE := hidU PE.out.cells.1; replace hgw := Nat.lt_of_lt_of_le hgy PE.out.bel.size; replace hgxw := PE.out.cells.2.2; clear ho hg hat a0 a1 a2 a3)
            go_roundw
            case rel => exact ⟨k + 1, g3, n + 1, cap3, true, _, hlt, by go_num, rfl, rfl, HE.out, PE.out, by omega⟩
            case measure => simp [intOf]; omega
          | false =>
            cases hls : Op.bytesLess (Pt k).toList xp.toList with
            | true =>
              have HE : Hid (((flsOf len Pt Tx).take (k + 1)).foldl (putStep (xp, xt)) (false, []) = (false, out ++ [(Pt k, Tx k)])) := by
                show _ = _
                rw [HF.out]
                simp [putStep, heq, hls]
              go_wp2
              have k0 := cell_regrown C0.out
              have k1 := cell_regrown X0.out
              refine wp_region_quiet_below (by kernel_rfl) (by kernel_rfl) ?_
              repeat (go_big_quiet_step (fail))
              refine wpQuiet_nil ?_
              intro _ hw'
              obtain ⟨⟨dq, osq⟩, hw''⟩ := hw'
              subst hw''
              have hbq := below_regrown wr dq osq
              have PA := hidU (PW.out.later hbq)
              have C0PA := hidU ((hbq.cell hgw).trans C0.out)
              have C1PA := hidU ((hbq.cell hgw).trans C1.out)
              have X0PA := hidU ((hbq.cell hgxw).trans X0.out)
              replace hgw := Nat.lt_of_lt_of_le hgw hbq.size
              replace hgxw := Nat.lt_of_lt_of_le hgxw hbq.size
              clear k0 k1 hbq
              generalize grow (redrawn wr dq) osq = wa at PA C0PA C1PA X0PA hgw hgxw ⊢
              go_wp2
              have k0 := cell_regrown C0PA.out
              have k1 := cell_regrown X0PA.out
              refine wp_region_quiet_below (by kernel_rfl) (by kernel_rfl) ?_
              repeat (go_big_quiet_step (fail))
              refine wpQuiet_nil ?_
              intro _ hw'
              obtain ⟨⟨dq, osq⟩, hw''⟩ := hw'
              subst hw''
              have hbq := below_regrown wa dq osq
              have PD := hidU (PA.out.later hbq)
              have C0PD := hidU ((hbq.cell hgw).trans C0PA.out)
              have C1PD := hidU ((hbq.cell hgw).trans C1PA.out)
              have X0PD := hidU ((hbq.cell hgxw).trans X0PA.out)
              replace hgw := Nat.lt_of_lt_of_le hgw hbq.size
              replace hgxw := Nat.lt_of_lt_of_le hgxw hbq.size
              clear k0 k1 hbq
              generalize grow (redrawn wa dq) osq = wd at PD C0PD C1PD X0PD hgw hgxw ⊢
              have a0 := C0PD.out
              have a1 := C1PD.out
              obtain ⟨a2, a3, _⟩ := PD.out.cells
              go_wp2_with (at_builtin; refine app_file wd rfl _ _ 48 rfl w.heap.size 52 i0 _ Try.underlying48 hi hz0 hz1 hz2 rfl g' (n) cap _ (by rfl) PD.out.out (Pt k, Tx k) (by rfl) (by omega) ?_; intro g3 cap3 we ho hg hat; have PE := hidU (PD.out.grow ho hg hat); have hgy : g < w.heap.size := F0.out.lt (by omega); have C0PE := hidU (((F0.out.later PE.out.bel).path k hlt)); have C1PE := hidU (((F0.out.later PE.out.bel).text k hlt)); rw [Nat.zero_add] at C0PE C1PE; have X0PE := hidU PE.out.cells.1; replace hgw := Nat.lt_of_lt_of_le hgy PE.out.bel.size; replace hgxw := PE.out.cells.2.2; clear ho hg hat a0 a1 a2 a3)
              go_roundw
              case rel => exact ⟨k + 1, g3, n + 1, cap3, false, _, hlt, by go_num, rfl, rfl, HE.out, PE.out, by omega⟩
              case measure => simp [intOf]; omega
            | false =>
              have HE : Hid (((flsOf len Pt Tx).take (k + 1)).foldl (putStep (xp, xt)) (false, []) = (true, out ++ [(xp, xt)] ++ [(Pt k, Tx k)])) := by
                show _ = _
                rw [HF.out]
                simp [putStep, heq, hls]
              go_wp2
              have k0 := cell_regrown C0.out
              have k1 := cell_regrown X0.out
              refine wp_region_quiet_below (by kernel_rfl) (by kernel_rfl) ?_
              repeat (go_big_quiet_step (fail))
              refine wpQuiet_nil ?_
              intro _ hw'
              obtain ⟨⟨dq, osq⟩, hw''⟩ := hw'
              subst hw''
              have hbq := below_regrown wr dq osq
              have PA := hidU (PW.out.later hbq)
              have C0PA := hidU ((hbq.cell hgw).trans C0.out)
              have C1PA := hidU ((hbq.cell hgw).trans C1.out)
              have X0PA := hidU ((hbq.cell hgxw).trans X0.out)
              replace hgw := Nat.lt_of_lt_of_le hgw hbq.size
              replace hgxw := Nat.lt_of_lt_of_le hgxw hbq.size
              clear k0 k1 hbq
              generalize grow (redrawn wr dq) osq = wa at PA C0PA C1PA X0PA hgw hgxw ⊢
              have a0 := C0PA.out
              have a1 := C1PA.out
              obtain ⟨a2, a3, _⟩ := PA.out.cells
              go_wp2_with (at_builtin; refine app_file wa rfl _ _ 48 rfl w.heap.size 52 i0 _ Try.underlying48 hi hz0 hz1 hz2 rfl g' (n) cap _ (by rfl) PA.out.out (xp, xt) (by rfl) (by omega) ?_; intro g2 cap2 wb ho hg hat; have PB := hidU (PA.out.grow ho hg hat); have hgy : g < w.heap.size := F0.out.lt (by omega); have C0PB := hidU (((F0.out.later PB.out.bel).path k hlt)); have C1PB := hidU (((F0.out.later PB.out.bel).text k hlt)); rw [Nat.zero_add] at C0PB C1PB; have X0PB := hidU PB.out.cells.1; replace hgw := Nat.lt_of_lt_of_le hgy PB.out.bel.size; replace hgxw := PB.out.cells.2.2; clear ho hg hat a0 a1 a2 a3)
              go_wp2
              have k0 := cell_regrown C0PB.out
              have k1 := cell_regrown X0PB.out
              refine wp_region_quiet_below (by kernel_rfl) (by kernel_rfl) ?_
              repeat (go_big_quiet_step (fail))
              refine wpQuiet_nil ?_
              intro _ hw'
              obtain ⟨⟨dq, osq⟩, hw''⟩ := hw'
              subst hw''
              have hbq := below_regrown wb dq osq
              have PD := hidU (PB.out.later hbq)
              have C0PD := hidU ((hbq.cell hgw).trans C0PB.out)
              have C1PD := hidU ((hbq.cell hgw).trans C1PB.out)
              have X0PD := hidU ((hbq.cell hgxw).trans X0PB.out)
              replace hgw := Nat.lt_of_lt_of_le hgw hbq.size
              replace hgxw := Nat.lt_of_lt_of_le hgxw hbq.size
              clear k0 k1 hbq
              generalize grow (redrawn wb dq) osq = wd at PD C0PD C1PD X0PD hgw hgxw ⊢
              have a0 := C0PD.out
              have a1 := C1PD.out
              obtain ⟨a2, a3, _⟩ := PD.out.cells
              go_wp2_with (at_builtin; refine app_file wd rfl _ _ 48 rfl w.heap.size 52 i0 _ Try.underlying48 hi hz0 hz1 hz2 rfl g2 (n + 1) cap2 _ (by rfl) PD.out.out (Pt k, Tx k) (by rfl) (by omega) ?_; intro g3 cap3 we ho hg hat; have PE := hidU (PD.out.grow ho hg hat); have hgy : g < w.heap.size := F0.out.lt (by omega); have C0PE := hidU (((F0.out.later PE.out.bel).path k hlt)); have C1PE := hidU (((F0.out.later PE.out.bel).text k hlt)); rw [Nat.zero_add] at C0PE C1PE; have X0PE := hidU PE.out.cells.1; replace hgw := Nat.lt_of_lt_of_le hgy PE.out.bel.size; replace hgxw := PE.out.cells.2.2; clear ho hg hat a0 a1 a2 a3)
              go_roundw
              case rel => exact ⟨k + 1, g3, n + 1 + 1, cap3, true, _, hlt, by go_num, rfl, rfl, HE.out, PE.out, by omega⟩
              case measure => simp [intOf]; omega
      · have HA : Hid ((flsOf len Pt Tx).foldl (putStep (xp, xt)) (false, []) = (b, out)) := by
          show _ = _
          rw [← HS.out, List.take_of_length_le (by rw [flsOf_len]; omega)]
        have HSZ : Hid (∀ y ∈ out, y.1.size ≤ 1048576 ∧ y.2.size ≤ 1048576) := fun y hy => by
          have h1 := put_mem (xp, xt) (flsOf len Pt Tx) (false, []) y
          rw [HA.out] at h1
          rcases h1 hy with hm | rfl | hm
          · cases hm
          · exact ⟨hxp, hxt⟩
          · obtain ⟨j, hj, rfl⟩ := fls_mem hm
            exact ⟨hp j hj, ht j hj⟩
        clear hpw
        go_upto_if 52 with fail
        go_cut [6] from 51 to 56 (fun s6 wx => ∃ (g2 n2 cap2 : Nat), s6 = .slice (some ⟨g2, 0, none⟩) n2 cap2 ∧ PutW w wx 52 g2 n2 cap2 (putFs (flsOf len Pt Tx) (xp, xt)) gx (xp, xt) ∧ n2 ≤ 17)
        case first =>
          cases b with
          | true =>
            have HE : Hid (putFs (flsOf len Pt Tx) (xp, xt) = out) := by show putFs _ _ = _; rw [putFs, HA.out]; rfl
            go_wp2
            go_meet
            case rel => exact ⟨g', n, cap, rfl, by rw [HE.out]; exact PW.out, by omega⟩
          | false =>
            have HE : Hid (putFs (flsOf len Pt Tx) (xp, xt) = out ++ [(xp, xt)]) := by show putFs _ _ = _; rw [putFs, HA.out]; rfl
            obtain ⟨a2, a3, _⟩ := PW.out.cells
            go_wp2_with (at_builtin; refine app_file wr rfl _ _ 48 rfl w.heap.size 52 i0 _ Try.underlying48 hi hz0 hz1 hz2 rfl g' n cap _ (by rfl) PW.out.out (xp, xt) (by rfl) (by omega) ?_; intro g2 cap2 w3 ho hg hat)
            go_meet
            case rel => exact ⟨g2, n + 1, cap2, rfl, by rw [HE.out]; exact PW.out.grow ho hg hat, by omega⟩
        case rest =>
          obtain ⟨g2, n2, cap2, rfl, hpw2, hn2⟩ := hcut
          have P3 := hidU hpw2
          have HL := hidU hpw2.out.2
          have HM : Hid (∀ y ∈ putFs (flsOf len Pt Tx) (xp, xt), y.1.size ≤ 1048576 ∧ y.2.size ≤ 1048576) := fun y hy => by
            rcases putFs_mem hy with rfl | hm
            · exact ⟨hxp, hxt⟩
            · obtain ⟨j, hj, rfl⟩ := fls_mem hm
              exact ⟨hp j hj, ht j hj⟩
          have HV : Hid (putS len Pt Tx (xp, xt) = if filesB n2 (ptOf (putFs (flsOf len Pt Tx) (xp, xt))) (txOf (putFs (flsOf len Pt Tx) (xp, xt))) then (putFs (flsOf len Pt Tx) (xp, xt), true) else (flsOf len Pt Tx, false)) := by
            show putS len Pt Tx (xp, xt) = _
            rw [putS, hfb, ← HL.out]
            rfl
          generalize putFs (flsOf len Pt Tx) (xp, xt) = F at P3 HL HM HV
          clear hpw2 HA HSZ HS PW
          have hsz : ∀ j, j < n2 → (ptOf F j).size ≤ 1048576 ∧ (txOf F j).size ≤ 1048576 := fun j hj => by
            have h1 : F.getD j flNo ∈ F := by
              have hj' : j < F.length := by rw [← HL.out]; exact hj
              rw [List.getD, List.getElem?_eq_getElem hj']
              exact List.getElem_mem hj'
            exact HM.out _ h1
          go_wp2_with fail
          refine (filesOk_specC g2 n2 cap2 (ptOf F) (txOf F) _ (ownFl_files P3.out.out) (by omega) (fun j hj => (hsz j hj).1) (fun j hj => (hsz j hj).2)).mono ?_
          rintro e w3 ⟨rfl, hb3⟩
          have P4 := hidU (P3.out.later hb3)
          clear hb3 hsz
          cases hfo : filesB n2 (ptOf F) (txOf F) with
          | true =>
            have HE : Hid (putS len Pt Tx (xp, xt) = (F, true)) := by show _ = _; rw [HV.out, hfo]; rfl
            go_wp2
            go_ret2
            exact ⟨g2, n2, cap2, by show Ending.returned (.tuple #[.slice (some ⟨g2, 0, none⟩) n2 cap2, .bool true]) = _; rw [HE.out], by rw [HE.out]; exact P4.out.out, P4.out.bel⟩
          | false =>
            have HE : Hid (putS len Pt Tx (xp, xt) = (flsOf len Pt Tx, false)) := by show _ = _; rw [HV.out, hfo]; rfl
            go_wp2_with (at_builtin; refine app_files (w3.alloc (.cells #[] 52)) rfl _ _ 48 rfl w.heap.size 52 i0 _ Try.underlying48 hi hz0 hz1 hz2 rfl w3.heap.size (by rfl) (ownFl_low (ownFl_nil w3 _) P4.out.bel.size) g len Pt Tx (by rfl) (F0.out.later (P4.out.bel.alloc P4.out.bel.size _)) hl8 (P4.out.bel.alloc P4.out.bel.size _).size ?_; intro g4 cap4 w4 ho4 hb4)
            go_ret2
            exact ⟨g4, len, cap4, by show Ending.returned (.tuple #[.slice (some ⟨g4, 0, none⟩) len cap4, .bool false]) = _; rw [HE.out], by rw [HE.out]; exact ho4, (P4.out.bel.alloc P4.out.bel.size _).trans hb4⟩
end Go.Proofs.Ytdbpknmoacjodaa
namespace Go.Proofs.Ytdbpknmoacjodaa
open Go.RowKit Go.PlainAid

def letB (c : Int) (scr : Bool) : Bool := decide (97 ≤ c ∧ c ≤ 122) || decide (65 ≤ c ∧ c ≤ 90) || decide (c = 95) || (scr && decide (c = 36))
def digB (c : Int) : Bool := decide (48 ≤ c ∧ c ≤ 57)
def worB (scr : Bool) (c : Int) : Bool := letB c scr || digB c
def notNl (c : Int) : Bool := decide (c ≠ 10)
abbrev Blank (c : Int) : Prop := c = 9 ∨ c = 10 ∨ c = 13 ∨ c = 32
abbrev Sign (c : Int) : Prop := c = 123 ∨ c = 125 ∨ c = 40 ∨ c = 41 ∨ c = 44 ∨ c = 59 ∨ c = 61 ∨ c = 46 ∨ c = 42 ∨ c = 43 ∨ c = 45
abbrev InStr (c : Int) : Prop := 32 ≤ c ∧ c ≤ 126 ∧ c ≠ 34 ∧ c ≠ 92
theorem letB_iff {c : Int} {scr : Bool} : letB c scr = true ↔ (97 ≤ c ∧ c ≤ 122) ∨ (65 ≤ c ∧ c ≤ 90) ∨ c = 95 ∨ (scr = true ∧ c = 36) := by simp [letB, or_assoc]
theorem digB_iff {c : Int} : digB c = true ↔ 48 ≤ c ∧ c ≤ 57 := by simp [digB]

def RunEnd (p : Int → Bool) (s : ByteArray) (a e : Nat) : Prop := a ≤ e ∧ e ≤ s.size ∧ (∀ j, a ≤ j → j < e → p (bt s j) = true) ∧ (e < s.size → p (bt s e) = false)
theorem runEnd_one {p : Int → Bool} {s : ByteArray} {a e1 e2 : Nat} (h1 : RunEnd p s a e1) (h2 : RunEnd p s a e2) : e1 = e2 := by
  obtain ⟨a1, b1, c1, d1⟩ := h1
  obtain ⟨a2, b2, c2, d2⟩ := h2
  rcases Nat.lt_trichotomy e1 e2 with h | h | h
  · have := c2 e1 a1 h
    rw [d1 (by omega)] at this
    cases this
  · exact h
  · have := c1 e2 a2 h
    rw [d2 (by omega)] at this
    cases this
def dval (s : ByteArray) (a : Nat) : Nat → Int
  | 0 => 0
  | k + 1 => dval s a k * 10 + (bt s (a + k) - 48)
def NumAt (s : ByteArray) (a : Nat) (scr : Bool) (n : Int) (e : Nat) : Prop :=
  RunEnd digB s a e ∧ a < e ∧ (e = a + 1 ∨ bt s a ≠ 48) ∧ n = dval s a (e - a) ∧ n ≤ 1000000 ∧ (e < s.size → letB (bt s e) scr = false)
theorem numAt_one {s : ByteArray} {a : Nat} {scr : Bool} {n1 n2 : Int} {e1 e2 : Nat} (h1 : NumAt s a scr n1 e1) (h2 : NumAt s a scr n2 e2) : n1 = n2 ∧ e1 = e2 := by
  have he := runEnd_one h1.1 h2.1
  subst he
  exact ⟨h1.2.2.2.1.trans h2.2.2.2.1.symm, rfl⟩
theorem dval_mono {s : ByteArray} {a : Nat} (k m : Nat) (hd : ∀ j, j < m → 48 ≤ bt s (a + j)) (hk : k ≤ m) : 0 ≤ dval s a k ∧ dval s a k ≤ dval s a m := by
  have h0 : ∀ m, (∀ j, j < m → 48 ≤ bt s (a + j)) → 0 ≤ dval s a m := by
    intro m
    induction m with
    | zero => intro _; exact Int.le_refl _
    | succ m ih =>
      intro h
      have h1 := ih (fun j hj => h j (by omega))
      have h2 := h m (by omega)
      show 0 ≤ dval s a m * 10 + (bt s (a + m) - 48)
      omega
  induction m with
  | zero =>
    obtain rfl : k = 0 := by omega
    exact ⟨Int.le_refl _, Int.le_refl _⟩
  | succ m ih =>
    by_cases e : k = m + 1
    · subst e
      exact ⟨h0 _ hd, Int.le_refl _⟩
    · obtain ⟨h1, h2⟩ := ih (fun j hj => hd j (by omega)) (by omega)
      have h3 := hd m (by omega)
      refine ⟨h1, ?_⟩
      show _ ≤ dval s a m * 10 + (bt s (a + m) - 48)
      omega
def StrAt (s : ByteArray) (a e : Nat) : Prop := a + 2 ≤ e ∧ e ≤ s.size ∧ e ≤ a + 42 ∧ bt s (e - 1) = 34 ∧ ∀ j, a < j → j + 1 < e → InStr (bt s j)
theorem strAt_one {s : ByteArray} {a e1 e2 : Nat} (h1 : StrAt s a e1) (h2 : StrAt s a e2) : e1 = e2 := by
  obtain ⟨a1, b1, c1, d1, f1⟩ := h1
  obtain ⟨a2, b2, c2, d2, f2⟩ := h2
  rcases Nat.lt_trichotomy e1 e2 with h | h | h
  · exact absurd d1 (f2 (e1 - 1) (by omega) (by omega)).2.2.1
  · exact h
  · exact absurd d2 (f1 (e2 - 1) (by omega) (by omega)).2.2.1

structure Tk where
  kind : Int
  text : ByteArray
  num : Int
  pos : Nat
def Tok (s : ByteArray) (scr : Bool) (a : Nat) (t : Tk) (e : Nat) : Prop :=
  (letB (bt s a) scr = true ∧ RunEnd (worB scr) s a e ∧ t = ⟨1, s.extract a e, 0, a⟩) ∨ (∃ n, digB (bt s a) = true ∧ NumAt s a scr n e ∧ t = ⟨2, { data := #[] }, n, a⟩) ∨ (bt s a = 34 ∧ StrAt s a e ∧ t = ⟨3, s.extract (a + 1) (e - 1), 0, a⟩) ∨ (Sign (bt s a) ∧ t = ⟨4, s.extract a (a + 1), 0, a⟩ ∧ e = a + 1)
theorem Tok.name {s : ByteArray} {scr : Bool} {a e : Nat} (h : letB (bt s a) scr = true) (he : RunEnd (worB scr) s a e) : Tok s scr a ⟨1, s.extract a e, 0, a⟩ e := .inl ⟨h, he, rfl⟩
theorem Tok.num {s : ByteArray} {scr : Bool} {a e : Nat} {n : Int} (h : digB (bt s a) = true) (he : NumAt s a scr n e) : Tok s scr a ⟨2, { data := #[] }, n, a⟩ e := .inr (.inl ⟨n, h, he, rfl⟩)
theorem Tok.str {s : ByteArray} {scr : Bool} {a e : Nat} (h : bt s a = 34) (he : StrAt s a e) : Tok s scr a ⟨3, s.extract (a + 1) (e - 1), 0, a⟩ e := .inr (.inr (.inl ⟨h, he, rfl⟩))
theorem Tok.sign {s : ByteArray} {scr : Bool} {a : Nat} (h : Sign (bt s a)) : Tok s scr a ⟨4, s.extract a (a + 1), 0, a⟩ (a + 1) := .inr (.inr (.inr ⟨h, rfl, rfl⟩))
theorem Tok.elim {s : ByteArray} {scr : Bool} {a : Nat} {motive : (t : Tk) → (e : Nat) → Tok s scr a t e → Prop} {t : Tk} {e : Nat} (h : Tok s scr a t e) (name : ∀ {e : Nat} (h : letB (bt s a) scr = true) (he : RunEnd (worB scr) s a e), motive _ e (.name h he)) (num : ∀ {n : Int} {e : Nat} (h : digB (bt s a) = true) (he : NumAt s a scr n e), motive _ e (.num h he)) (str : ∀ {e : Nat} (h : bt s a = 34) (he : StrAt s a e), motive _ e (.str h he)) (sign : ∀ (h : Sign (bt s a)), motive _ _ (.sign h)) : motive t e h := by
  rcases h with ⟨h1, h2, rfl⟩ | ⟨n, h1, h2, rfl⟩ | ⟨h1, h2, rfl⟩ | ⟨h1, rfl, rfl⟩
  · exact name h1 h2
  · exact num h1 h2
  · exact str h1 h2
  · exact sign h1
theorem let_dig {c : Int} {scr : Bool} (h : letB c scr = true) : digB c = false ∧ c ≠ 34 ∧ ¬ Sign c := by
  rw [letB_iff] at h
  refine ⟨decide_eq_false (by omega), by omega, by unfold Sign; omega⟩
theorem dig_str {c : Int} (h : digB c = true) : c ≠ 34 ∧ ¬ Sign c := by
  rw [digB_iff] at h
  exact ⟨by omega, by unfold Sign; omega⟩
theorem tok_one {s : ByteArray} {scr : Bool} {a : Nat} {t1 t2 : Tk} {e1 e2 : Nat} (h1 : Tok s scr a t1 e1) (h2 : Tok s scr a t2 e2) : t1 = t2 ∧ e1 = e2 := by
  cases h1 using Tok.elim with
  | name h he =>
    have hd := let_dig h
    cases h2 using Tok.elim with
    | name h' he' => have := runEnd_one he he'; subst this; exact ⟨rfl, rfl⟩
    | num h' he' => rw [hd.1] at h'; cases h'
    | str h' he' => exact absurd h' hd.2.1
    | sign h' => exact absurd h' hd.2.2
  | num h he =>
    have hd := dig_str h
    cases h2 using Tok.elim with
    | name h' he' => rw [(let_dig h').1] at h; cases h
    | num h' he' => obtain ⟨rfl, rfl⟩ := numAt_one he he'; exact ⟨rfl, rfl⟩
    | str h' he' => exact absurd h' hd.1
    | sign h' => exact absurd h' hd.2
  | str h he =>
    cases h2 using Tok.elim with
    | name h' he' => exact absurd h (let_dig h').2.1
    | num h' he' => exact absurd h (dig_str h').1
    | str h' he' => have := strAt_one he he'; subst this; exact ⟨rfl, rfl⟩
    | sign h' => rw [h] at h'; unfold Sign at h'; omega
  | sign h =>
    cases h2 using Tok.elim with
    | name h' he' => exact absurd h (let_dig h').2.2
    | num h' he' => exact absurd h (dig_str h').2
    | str h' he' => rw [h'] at h; unfold Sign at h; omega
    | sign h' => exact ⟨rfl, rfl⟩
theorem tok_end {s : ByteArray} {scr : Bool} {a : Nat} {t : Tk} {e : Nat} (ha : a < s.size) (h : Tok s scr a t e) : a < e ∧ e ≤ s.size ∧ t.pos = a := by
  cases h using Tok.elim with
  | name h he =>
    refine ⟨?_, he.2.1, rfl⟩
    rcases Nat.lt_or_ge a e with k | k
    · exact k
    · have e1 : e = a := by have := he.1; omega
      subst e1
      have := he.2.2.2 ha
      simp [worB, h] at this
  | num h he => exact ⟨he.2.1, he.1.2.1, rfl⟩
  | str h he => exact ⟨by have := he.1; omega, he.2.1, rfl⟩
  | sign h => exact ⟨by omega, by omega, rfl⟩

abbrev Slashes (s : ByteArray) (a : Nat) : Prop := bt s a = 47 ∧ a + 1 < s.size ∧ bt s (a + 1) = 47
def SkipK (s : ByteArray) (P : Nat → Nat → Prop) : Prop := P s.size s.size ∧ (∀ a, a < s.size → ¬ Blank (bt s a) → ¬ Slashes s a → P a a) ∧ (∀ a b, a < s.size → Blank (bt s a) → P (a + 1) b → P a b) ∧ ∀ a c b, a < s.size → Slashes s a → RunEnd notNl s a c → P c b → P a b
def Skip (s : ByteArray) (a b : Nat) : Prop := ∀ P, SkipK s P → P a b
theorem Skip.done {s : ByteArray} : Skip s s.size s.size := fun _ k => k.1
theorem Skip.stop {s : ByteArray} {a : Nat} (h : a < s.size) (h1 : ¬ Blank (bt s a)) (h2 : ¬ Slashes s a) : Skip s a a := fun _ k => k.2.1 a h h1 h2
theorem Skip.blank {s : ByteArray} {a b : Nat} (h : a < s.size) (h1 : Blank (bt s a)) (r : Skip s (a + 1) b) : Skip s a b := fun P k => k.2.2.1 a b h h1 (r P k)
theorem Skip.comment {s : ByteArray} {a c b : Nat} (h : a < s.size) (h1 : Slashes s a) (hc : RunEnd notNl s a c) (r : Skip s c b) : Skip s a b := fun P k => k.2.2.2 a c b h h1 hc (r P k)
theorem Skip.ind {s : ByteArray} {motive : (a b : Nat) → Skip s a b → Prop} {a b : Nat} (h : Skip s a b) (done : motive _ _ .done) (stop : ∀ {a : Nat} (h : a < s.size) (h1 : ¬ Blank (bt s a)) (h2 : ¬ Slashes s a), motive a a (.stop h h1 h2)) (blank : ∀ {a b : Nat} (h : a < s.size) (h1 : Blank (bt s a)) (r : Skip s (a + 1) b), motive _ _ r → motive a b (.blank h h1 r)) (comment : ∀ {a c b : Nat} (h : a < s.size) (h1 : Slashes s a) (hc : RunEnd notNl s a c) (r : Skip s c b), motive _ _ r → motive a b (.comment h h1 hc r)) : motive a b h :=
  (h (fun a b => ∃ k, motive a b k) ⟨⟨_, done⟩, fun _ h h1 h2 => ⟨_, stop h h1 h2⟩, fun _ _ h h1 ⟨r, k⟩ => ⟨_, blank h h1 r k⟩, fun _ _ _ h h1 hc ⟨r, k⟩ => ⟨_, comment h h1 hc r k⟩⟩).2
theorem Skip.elim {s : ByteArray} {motive : (a b : Nat) → Skip s a b → Prop} {a b : Nat} (h : Skip s a b) (done : motive _ _ .done) (stop : ∀ {a : Nat} (h : a < s.size) (h1 : ¬ Blank (bt s a)) (h2 : ¬ Slashes s a), motive a a (.stop h h1 h2)) (blank : ∀ {a b : Nat} (h : a < s.size) (h1 : Blank (bt s a)) (r : Skip s (a + 1) b), motive a b (.blank h h1 r)) (comment : ∀ {a c b : Nat} (h : a < s.size) (h1 : Slashes s a) (hc : RunEnd notNl s a c) (r : Skip s c b), motive a b (.comment h h1 hc r)) : motive a b h :=
  h.ind done stop (fun h h1 r _ => blank h h1 r) (fun h h1 hc r _ => comment h h1 hc r)
theorem slash_blank {s : ByteArray} {a : Nat} (h : Slashes s a) : ¬ Blank (bt s a) := by rw [h.1]; unfold Blank; omega
theorem skip_one {s : ByteArray} {a b1 b2 : Nat} (h1 : Skip s a b1) : Skip s a b2 → b1 = b2 := by
  induction h1 using Skip.ind with
  | done =>
    intro h2
    generalize hx : s.size = x at h2
    cases h2 using Skip.elim with
    | done => rfl
    | stop h _ _ => omega
    | blank h _ _ => omega
    | comment h _ _ _ => omega
  | stop h k1 k2 =>
    intro h2
    cases h2 using Skip.elim with
    | done => rfl
    | stop _ _ _ => rfl
    | blank _ k _ => exact absurd k k1
    | comment _ k _ _ => exact absurd k k2
  | blank h k _ ih =>
    intro h2
    cases h2 using Skip.elim with
    | done => exact absurd h (Nat.lt_irrefl _)
    | stop _ k1 _ => exact absurd k k1
    | blank _ _ r => exact ih r
    | comment _ k1 _ _ => exact absurd k (slash_blank k1)
  | comment h k hc _ ih =>
    intro h2
    cases h2 using Skip.elim with
    | done => exact absurd h (Nat.lt_irrefl _)
    | stop _ _ k2 => exact absurd k k2
    | blank _ k1 _ => exact absurd k1 (slash_blank k)
    | comment _ _ hc' r => have := runEnd_one hc hc'; subst this; exact ih r
theorem skip_bd {s : ByteArray} {a b : Nat} (h : Skip s a b) : a ≤ b ∧ b ≤ s.size := by
  induction h using Skip.ind with
  | done => exact ⟨Nat.le_refl _, Nat.le_refl _⟩
  | stop h _ _ => exact ⟨Nat.le_refl _, by omega⟩
  | blank h _ _ ih => exact ⟨by omega, ih.2⟩
  | comment h _ hc _ ih => exact ⟨by have := hc.1; omega, ih.2⟩

def LxK (s : ByteArray) (scr : Bool) (P : Nat → Nat → Except Nat (List Tk) → Prop) : Prop := (∀ n, P s.size n (.ok [])) ∧ (∀ a n, a < s.size → (4000 ≤ n ∨ ∀ t e, ¬ Tok s scr a t e) → P a n (.error a)) ∧ ∀ a n e b t r, a < s.size → n < 4000 → Tok s scr a t e → Skip s e b → P b (n + 1) r → P a n (r.map (t :: ·))
def Lx (s : ByteArray) (scr : Bool) (a n : Nat) (r : Except Nat (List Tk)) : Prop := ∀ P, LxK s scr P → P a n r
theorem Lx.done {s : ByteArray} {scr : Bool} {n : Nat} : Lx s scr s.size n (.ok []) := fun _ k => k.1 n
theorem Lx.bad {s : ByteArray} {scr : Bool} {a n : Nat} (h : a < s.size) (h1 : 4000 ≤ n ∨ ∀ t e, ¬ Tok s scr a t e) : Lx s scr a n (.error a) := fun _ k => k.2.1 a n h h1
theorem Lx.tok {s : ByteArray} {scr : Bool} {a n e b : Nat} {t : Tk} {r : Except Nat (List Tk)} (h : a < s.size) (hn : n < 4000) (ht : Tok s scr a t e) (hs : Skip s e b) (hr : Lx s scr b (n + 1) r) : Lx s scr a n (r.map (t :: ·)) := fun P k => k.2.2 a n e b t r h hn ht hs (hr P k)
theorem Lx.ind {s : ByteArray} {scr : Bool} {motive : (a n : Nat) → (r : Except Nat (List Tk)) → Lx s scr a n r → Prop} {a n : Nat} {r : Except Nat (List Tk)} (h : Lx s scr a n r) (done : ∀ {n : Nat}, motive _ n _ .done) (bad : ∀ {a n : Nat} (h : a < s.size) (h1 : 4000 ≤ n ∨ ∀ t e, ¬ Tok s scr a t e), motive a n _ (.bad h h1)) (tok : ∀ {a n e b : Nat} {t : Tk} {r : Except Nat (List Tk)} (h : a < s.size) (hn : n < 4000) (ht : Tok s scr a t e) (hs : Skip s e b) (hr : Lx s scr b (n + 1) r), motive _ _ _ hr → motive a n _ (.tok h hn ht hs hr)) : motive a n r h :=
  (h (fun a n r => ∃ k, motive a n r k) ⟨fun _ => ⟨_, done⟩, fun _ _ h h1 => ⟨_, bad h h1⟩, fun _ _ _ _ _ _ h hn ht hs ⟨hr, k⟩ => ⟨_, tok h hn ht hs hr k⟩⟩).2
theorem Lx.elim {s : ByteArray} {scr : Bool} {motive : (a n : Nat) → (r : Except Nat (List Tk)) → Lx s scr a n r → Prop} {a n : Nat} {r : Except Nat (List Tk)} (h : Lx s scr a n r) (done : ∀ {n : Nat}, motive _ n _ .done) (bad : ∀ {a n : Nat} (h : a < s.size) (h1 : 4000 ≤ n ∨ ∀ t e, ¬ Tok s scr a t e), motive a n _ (.bad h h1)) (tok : ∀ {a n e b : Nat} {t : Tk} {r : Except Nat (List Tk)} (h : a < s.size) (hn : n < 4000) (ht : Tok s scr a t e) (hs : Skip s e b) (hr : Lx s scr b (n + 1) r), motive a n _ (.tok h hn ht hs hr)) : motive a n r h :=
  h.ind done bad (fun h hn ht hs hr _ => tok h hn ht hs hr)
theorem lx_one {s : ByteArray} {scr : Bool} {a n : Nat} {r1 r2 : Except Nat (List Tk)} (h1 : Lx s scr a n r1) : Lx s scr a n r2 → r1 = r2 := by
  induction h1 using Lx.ind generalizing r2 with
  | done =>
    intro h2
    generalize hx : s.size = x at h2
    cases h2 using Lx.elim with
    | done => rfl
    | bad h _ => omega
    | tok h _ _ _ _ => omega
  | bad h k =>
    intro h2
    cases h2 using Lx.elim with
    | done => exact absurd h (Nat.lt_irrefl _)
    | bad _ _ => rfl
    | tok _ hn ht _ _ => exact k.elim (fun k => by omega) fun k => absurd ht (k _ _)
  | tok h hn ht hs _ ih =>
    intro h2
    cases h2 using Lx.elim with
    | done => exact absurd h (Nat.lt_irrefl _)
    | bad _ k => exact k.elim (fun k => by omega) fun k => absurd ht (k _ _)
    | tok _ _ ht' hs' r =>
      obtain ⟨rfl, rfl⟩ := tok_one ht ht'
      have := skip_one hs hs'
      subst this
      rw [ih r]
def LexR (s : ByteArray) (scr : Bool) (r : Except Nat (List Tk)) : Prop := ∃ a, Skip s 0 a ∧ Lx s scr a 0 r
theorem lexR_one {s : ByteArray} {scr : Bool} {r1 r2 : Except Nat (List Tk)} (h1 : LexR s scr r1) (h2 : LexR s scr r2) : r1 = r2 := by
  obtain ⟨a, s1, l1⟩ := h1
  obtain ⟨b, s2, l2⟩ := h2
  have := skip_one s1 s2
  subst this
  exact lx_one l1 l2
end Go.Proofs.Ytdbpknmoacjodaa
namespace Go.Proofs.Ytdbpknmoacjodaa
open Go.RowKit Go.PlainAid

def tkL (t : Tk) : List Value := [.int .i64 t.kind, .string t.text, .int .i64 t.num, .int .i64 t.pos]
def OwnT (w : World) (base : Nat) (e : TypeId) (g n cap : Nat) (ts : List Tk) : Prop := w.ownsRow base e 4 (.slice (some ⟨g, 0, none⟩) n cap) n (ts.flatMap tkL) ∧ n = ts.length
theorem ownT_len {w : World} {base g n cap : Nat} {e : TypeId} {ts : List Tk} (h : OwnT w base e g n cap ts) : n = ts.length := h.2
theorem ownT_lt {w : World} {base g n cap : Nat} {e : TypeId} {ts : List Tk} (h : OwnT w base e g n cap ts) : g < w.heap.size ∧ base ≤ g ∧ n ≤ cap := by
  rcases h.1.2 with ⟨h', _⟩ | ⟨g', cap', cur, h', hb, hg, hn, _⟩
  · simp at h'
  · simp only [Value.slice.injEq, Option.some.injEq, Addr.mk.injEq, and_true, true_and] at h'
    obtain ⟨rfl, rfl⟩ := h'
    exact ⟨(Array.getElem?_eq_some_iff.1 hg).1, hb, hn⟩
theorem ownT_later {w W : World} {base g n cap : Nat} {e : TypeId} {ts : List Tk} (h : OwnT w base e g n cap ts) (hb : Below w.heap.size w W) : OwnT W base e g n cap ts := by
  have hlt := (ownT_lt h).1
  refine ⟨⟨h.1.1, ?_⟩, h.2⟩
  rcases h.1.2 with k | ⟨g', cap', cur, hv, hbase, hg, hr⟩
  · exact .inl k
  · simp only [Value.slice.injEq, Option.some.injEq, Addr.mk.injEq, and_true, true_and] at hv
    obtain ⟨rfl, rfl⟩ := hv
    exact .inr ⟨g, cap, cur, rfl, hbase, (hb.block g hlt).trans hg, hr⟩
theorem ownT_nil (w : World) (e : TypeId) (base : Nat) (hb : base ≤ w.heap.size) : OwnT (w.alloc (.cells #[] e)) base e w.heap.size 0 0 [] :=
  ⟨World.ownsRow_lit w #[] 0 hb (by unfold maxLen; omega) rfl, rfl⟩
theorem app_tok {P : Program} (w : World) {ops : Array Oper} {rest : List Oper} {o : Oper} {a : Act} {Q : Exit → Act → World → Prop} (hgd : o.guard = none) (s x : Operand) (t : TypeId)
    (ho : o.op = .call { callee := .builtin .append, args := #[s, x], argTypes := #[t, t] })
    (base : Nat) (e : TypeId) (i : TypeInfo) (z : Value) (ht : P.underlying t = some (.slice e)) (hi : P.info? e = some i) (hz : i.zero = some z) (hsize : i.size = 4) (hby : i.bytes = 40) (hzs : z.cells.size = 4)
    (g n cap : Nat) (ts : List Tk) (hs : a.eval s = .slice (some ⟨g, 0, none⟩) n cap) (hown : OwnT w base e g n cap ts)
    (b : Tk) (gx : Nat) (hgx : gx = w.heap.size) (hx : a.eval x = .slice (some ⟨gx, 0, none⟩) 1 1) (hn : n + 1 ≤ 1000000) (hbase : base ≤ w.heap.size)
    (h : ∀ g' cap' w', OwnT w' base e g' (n + 1) cap' (ts ++ [b]) → Below base w w' → wpList P ops Q rest (a.put o.dst (.slice (some ⟨g', 0, none⟩) (n + 1) cap')) w') :
    wpList P ops Q (o :: rest) a (w.alloc (.cells #[.int .i64 b.kind, .string b.text, .int .i64 b.num, .int .i64 b.pos] e)) := by
  subst hgx
  refine wpList_append_own _ hgd s x t ho base e i z 4 40 ht hi hz hsize hby hzs (by decide) _ n _ hs (hown.1.alloc _) ⟨w.heap.size, 0, none⟩ 1 1 (tkL b) hx rfl ?_ ?_ ?_ ?_ ?_ ?_
  · intro j u hj
    match j, hj with
    | 0, hj => simp [tkL] at hj; subst hj; simp [Addr.add]
    | 1, hj => simp [tkL] at hj; subst hj; simp [Addr.add]
    | 2, hj => simp [tkL] at hj; subst hj; simp [Addr.add]
    | 3, hj => simp [tkL] at hj; subst hj; simp [Addr.add]
    | j + 4, hj => simp [tkL] at hj
  · intro u hu
    simp [tkL] at hu
    rcases hu with rfl | rfl | rfl | rfl <;> rfl
  · unfold maxLen; omega
  · omega
  · simp; omega
  · intro v' w' h1 h2 h3
    have hb : Below base w w' := ((Below.refl base w).alloc hbase _).grown h2 (by simp; omega) (own_block_ge hown.1)
    rcases h1.2 with ⟨hv, _⟩ | ⟨g', cap', cur, rfl, hrest⟩
    · have := (h3.1 hv).1
      simp at this
    · refine h g' cap' w' ⟨?_, by rw [List.length_append]; have := hown.2; simp; omega⟩ hb
      rw [List.flatMap_append]
      simpa using h1
end Go.Proofs.Ytdbpknmoacjodaa
namespace Go.Proofs.Ytdbpknmoacjodaa
open Go.RowKit Go.PlainAid Go.Sort

def mdig : Nat → Nat → ByteArray → ByteArray
  | 0, _, o => o
  | f + 1, k, o => if k = 0 then o else mdig f (k / 10) (strOfNums [48 + (k : Int) % 10] ++ o)
def mtS (k : Nat) : ByteArray := { data := #[109] } ++ mdig k k { data := #[] }
theorem mdig_zero (f : Nat) (o : ByteArray) : mdig f 0 o = o := by cases f <;> rfl
theorem mdig_step {f k : Nat} {o : ByteArray} (h : k ≤ f) (hk : 0 < k) : ∃ f', k / 10 ≤ f' ∧ mdig f k o = mdig f' (k / 10) (strOfNums [48 + (k : Int) % 10] ++ o) := by
  match f, h with
  | 0, h => omega
  | f + 1, h => exact ⟨f, by omega, by rw [mdig, if_neg (by omega)]⟩
set_option maxHeartbeats 1600000 in
theorem markText_far (k0 : Nat) (w : World) (_ : 0 < k0) (h1 : k0 ≤ 8000000) :
    Calls Try.prog 71 #[.int .i64 k0] w fun e w' => e = .returned (.string (mtS k0)) ∧ Below w.heap.size w w' := by
  go_enter Try.func71, Try.ntmps71
  go_wp2
  go_loopw [0, 3] (fun i o wr => ∃ (k f m : Nat) (x : ByteArray), i = .int .i64 k ∧ o = .string x ∧ k ≤ f ∧ k ≤ 8000000 ∧ mdig f k x = mdig k0 k0 { data := #[] } ∧ x.size ≤ m ∧ k + m ≤ 8000000 ∧ Below w.heap.size w wr) (fun i _ _ => (intOf i).toNat)
  case atStart => exact ⟨k0, k0, 0, _, rfl, rfl, Nat.le_refl _, h1, rfl, Nat.le_refl _, by omega, Below.refl _ _⟩
  case round =>
    obtain ⟨k, f, m, x, rfl, rfl, hkf, hk1, hd, hx, hxm, hb⟩ := hrel
    have HD : Hid (mdig f k x = mdig k0 k0 { data := #[] }) := hd
    clear hd
    by_cases hk : 0 < k
    · obtain ⟨f', hf', hst⟩ := mdig_step (o := x) hkf hk
      have HN : Hid (mdig f' (k / 10) (strOfNums [48 + (k : Int) % 10] ++ x) = mdig k0 k0 { data := #[] }) := hst.symm.trans HD.out
      have hst := fun (w : World) (x : Int) => run_string_one (P := Try.prog) (src := 59) (dst := 9) Try.underlying59 Try.underlying5 Try.underlying9 w x
      have hone := fun x => strOfNums_size [x]
      have hdv : k / 10 + 1 ≤ k := by omega
      go_wp2
      go_roundw
      case rel => exact ⟨k / 10, f', m + 1, _, by go_num, rfl, hf', by omega, HN.out, by rw [ByteArray.size_append, hone]; simp; omega, by omega, hb.alloc hb.size _⟩
      case measure => simp [intOf]; omega
    · obtain rfl : k = 0 := by omega
      have HE : Hid (x = mdig k0 k0 { data := #[] }) := by have := HD.out; rw [mdig_zero] at this; exact this
      go_wp2
      go_ret
      exact ⟨ret_str (by rw [HE.out]; rfl), hb⟩
theorem markText_any (k0 : Nat) (w : World) (h0 : 0 < k0) (h1 : k0 ≤ 100000) :
    Calls Try.prog 71 #[.int .i64 k0] w fun e w' => e = .returned (.string (mtS k0)) ∧ Below w.heap.size w w' := markText_far k0 w h0 (by omega)
end Go.Proofs.Ytdbpknmoacjodaa
namespace Go.Proofs.Ytdbpknmoacjodaa
open Go.RowKit Go.PlainAid Go.Sort

def OwnM (w : World) (base : Nat) (e : TypeId) (size g n cap k0 c : Nat) : Prop := ∃ xs, w.ownsRow base e size (.slice (some ⟨g, 0, none⟩) n cap) n xs ∧ ∀ i, i < c → xs[i]? = some (.string (mtS (k0 + i)))
theorem OwnM.start {w : World} {base size g n cap : Nat} {e : TypeId} {xs : List Value} (h : w.ownsRow base e size (.slice (some ⟨g, 0, none⟩) n cap) n xs) (k0 : Nat) : OwnM w base e size g n cap k0 0 := ⟨xs, h, fun i hi => absurd hi (Nat.not_lt_zero i)⟩
theorem OwnM.blk {w : World} {base size g n cap k0 c : Nat} {e : TypeId} (h : OwnM w base e size g n cap k0 c) : base ≤ g ∧ g < w.heap.size := by
  obtain ⟨xs, h1, _⟩ := h
  rcases h1.2 with ⟨h', _⟩ | ⟨g', cap', cur, h', hb, hg, _⟩
  · simp at h'
  · simp only [Value.slice.injEq, Option.some.injEq, Addr.mk.injEq, and_true, true_and] at h'
    obtain ⟨rfl, rfl⟩ := h'
    exact ⟨hb, (Array.getElem?_eq_some_iff.1 hg).1⟩
theorem OwnM.keep {w W : World} {base size g n cap k0 c : Nat} {e : TypeId} (h : OwnM w base e size g n cap k0 c) (hk : W.heap[g]? = w.heap[g]?) : OwnM W base e size g n cap k0 c := by
  obtain ⟨xs, h1, h2⟩ := h
  refine ⟨xs, ⟨h1.1, ?_⟩, h2⟩
  rcases h1.2 with ⟨h', _⟩ | ⟨g', cap', cur, h', hbs, hg, hr⟩
  · simp at h'
  · simp only [Value.slice.injEq, Option.some.injEq, Addr.mk.injEq, and_true, true_and] at h'
    obtain ⟨rfl, rfl⟩ := h'
    exact .inr ⟨g, cap, cur, rfl, hbs, hk.trans hg, hr⟩
theorem OwnM.later {w W : World} {base size g n cap k0 c : Nat} {e : TypeId} (h : OwnM w base e size g n cap k0 c) (hb : Below w.heap.size w W) : OwnM W base e size g n cap k0 c := h.keep (hb.block g h.blk.2)
theorem OwnM.has {w : World} {base size g n cap k0 c : Nat} {e : TypeId} (h : OwnM w base e size g n cap k0 c) (i : Nat) (hi : i < n * size) : ∃ v, w.cell? ⟨g, i, none⟩ = some v := by
  obtain ⟨xs, h1, _⟩ := h
  rw [h1.cellAt i hi]
  exact ⟨_, List.getElem?_eq_getElem (by rw [h1.1]; exact hi)⟩
theorem OwnM.cell {w : World} {base size g n cap k0 c : Nat} {e : TypeId} (h : OwnM w base e size g n cap k0 c) (i q : Nat) (hi : i < n * size) (hc : i < c) (hq : q = k0 + i) : w.cell? ⟨g, i, none⟩ = some (.string (mtS q)) := by
  obtain ⟨xs, h1, h2⟩ := h
  rw [h1.cellAt i hi, hq]
  exact h2 i hc
theorem OwnM.free {w : World} {base size g n cap k0 c : Nat} {e : TypeId} (h : OwnM w base e size g n cap k0 c) (i : Nat) : w.frozen? ⟨g, i, none⟩ = false := by
  obtain ⟨xs, h1, _⟩ := h
  exact h1.frozenAt i
theorem OwnM.put {w : World} {base size g n cap k0 c q : Nat} {e : TypeId} (h : OwnM w base e size g n cap k0 c) (hc : c < n * size) (hq : q = k0 + c) : OwnM (w.setCell ⟨g, c, none⟩ (.string (mtS q))) base e size g n cap k0 (c + 1) := by
  subst hq
  obtain ⟨xs, h1, h2⟩ := h
  have hl := h1.1
  refine ⟨xs.set c (.string (mtS (k0 + c))), (h1.stored c _).1, fun i hi => ?_⟩
  by_cases e : i = c
  · subst e
    exact List.getElem?_set_self (by omega)
  · rw [List.getElem?_set_ne (by omega)]
    exact h2 i (by omega)
theorem OwnM.nil {w : World} {base size g cap k0 c : Nat} {e : TypeId} (h : OwnM w base e size g 0 cap k0 0) (hc : c = 0) : OwnM w base e size g 0 cap k0 c := by rw [hc]; exact h
theorem gm_refl (w : World) (b : Option Nat) : w.grownBy w b := ⟨rfl, rfl, rfl, Nat.le_refl _, fun _ _ _ => rfl⟩
theorem gm_trans {w w1 w2 : World} {b : Option Nat} (h : w.grownBy w1 b) (k : w1.grownBy w2 b) : w.grownBy w2 b :=
  ⟨k.os.trans h.os, k.tape.trans h.tape, k.output.trans h.output, Nat.le_trans h.size k.size, fun i hi hn => (k.block i (Nat.lt_of_lt_of_le hi h.size) hn).trans (h.block i hi hn)⟩
theorem gm_below {w w1 w2 : World} {b : Option Nat} (h : w.grownBy w1 b) (k : Below w1.heap.size w1 w2) : w.grownBy w2 b :=
  gm_trans h ⟨k.os, k.tape, k.output, k.size, fun i hi _ => k.block i hi⟩
theorem gm_set {w w1 : World} {g i : Nat} {u : Value} (h : w.grownBy w1 (some g)) : w.grownBy (w1.setCell ⟨g, i, none⟩ u) (some g) :=
  gm_trans h ⟨rfl, rfl, rfl, by show _ ≤ (w1.heap.modify _ _).size; simp, fun k _ hn => Below.heap_setCell w1 ⟨g, i, none⟩ u k (fun e => hn (by rw [e]))⟩
end Go.Proofs.Ytdbpknmoacjodaa
