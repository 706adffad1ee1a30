/-
  What spec.DrawProbe tells: some files, and two texts that are not long: the walk.
  Rows of texts of the call's own, one beside another; whether a text is in a row. No program is spoken of.
  What spec.l2Begins and spec.Resolve answer: the walks.
  Candidates of a request, as plain functions. No program is spoken of.
  What holds of the candidates: each is a path, and they are unlike. No program is spoken of but for the numbers of its types.
-/
import Derived.Test.YtemfbibeoibpeaaClRowFile
import Derived.Test.YtemfbibeoibpeaaClLawFiles
namespace Go.Proofs.Ytemfbibeoibpeaa
open Go.RowKit Go.PlainAid

structure PrW (S : Src) (w wr : World) (gc gp : Nat) (q : Nat × Int) (g n cap : Nat) (fs : List Fl) : Prop where
  cur : CurW 65 S wr gc q
  lit : ∀ j, j < 6 → ∃ x, wr.cell? ⟨gp, j, none⟩ = some (.string x) ∧ x.size ≤ 100
  gpl : gc < gp ∧ gp < wr.heap.size ∧ w.heap.size ≤ gc
  own : OwnFl wr (gp + 1) 55 g n cap fs
  few : ∀ x ∈ fs, x.1.size ≤ 100 ∧ x.2.size ≤ 100
  bel : Below w.heap.size w wr
theorem cell_kept {w W : World} {g j : Nat} (h : W.heap[g]? = w.heap[g]?) : W.cell? ⟨g, j, none⟩ = w.cell? ⟨g, j, none⟩ := by simp [World.cell?, h]
theorem PrW.draw {S : Src} {w wr W : World} {gc gp : Nat} {q q' : Nat × Int} {g n cap : Nat} {fs : List Fl} (h : PrW S w wr gc gp q g n cap fs) (hc : CurW 65 S W gc q') (k : wr.grownBy W (some gc)) : PrW S w W gc gp q' g n cap fs := by
  have hg := ownFl_blk h.own
  have h1 := h.gpl
  refine ⟨hc, fun j hj => ?_, ⟨h1.1, Nat.lt_of_lt_of_le h1.2.1 k.size, h1.2.2⟩, ownFl_keep h.own (k.block g hg.2 (fun e => by have := Option.some.inj e; omega)), h.few, below_grown h.bel k h1.2.2 h.bel.size⟩
  rw [cell_kept (k.block gp h1.2.1 (fun e => by have := Option.some.inj e; omega))]
  exact h.lit j hj
theorem PrW.app {S : Src} {w wr W : World} {gc gp : Nat} {q : Nat × Int} {g n cap g' cap' : Nat} {fs : List Fl} {b : Fl} (h : PrW S w wr gc gp q g n cap fs) (ho : OwnFl W (gp + 1) 55 g' (n + 1) cap' (fs ++ [b])) (k : wr.grownBy W (some g)) (hb : b.1.size ≤ 100 ∧ b.2.size ≤ 100) : PrW S w W gc gp q g' (n + 1) cap' (fs ++ [b]) := by
  have hg := ownFl_blk h.own
  have h1 := h.gpl
  refine ⟨curW_kept h.cur (fun j hj => k.block j (by omega) (fun e => by have := Option.some.inj e; omega)), fun j hj => ?_, ⟨h1.1, Nat.lt_of_lt_of_le h1.2.1 k.size, h1.2.2⟩, ho, fun x hx => ?_, below_grown h.bel k (by omega) h.bel.size⟩
  · rw [cell_kept (k.block gp h1.2.1 (fun e => by have := Option.some.inj e; omega))]
    exact h.lit j hj
  · rcases List.mem_append.1 hx with hx | hx
    · exact h.few x hx
    · rw [List.mem_singleton.1 hx]
      exact hb
theorem ownFl_lower {w : World} {base b g n cap : Nat} {e : TypeId} {fs : List Fl} (h : OwnFl w base e g n cap fs) (hb : b ≤ base) : OwnFl w b e g n cap fs := by
  refine ⟨⟨h.1.1, ?_⟩, h.2⟩
  rcases h.1.2 with ⟨h', _⟩ | ⟨g', cap', cur, h', hbs, hg, hr⟩
  · simp at h'
  · exact .inr ⟨g', cap', cur, h', Nat.le_trans hb hbs, hg, hr⟩
set_option maxRecDepth 100000 in
set_option maxHeartbeats 3200000 in
theorem drawProbe_some (S : Src) (hS : S.ok) (w : World) (hc : CodeW S w) (hl : S.lim ≤ w.heap.size) :
    Calls Try.prog 15 #[.slice S.a S.len S.cap] w fun e w' => ∃ g n cap fs f x, e = .returned (.tuple #[.slice (some ⟨g, 0, none⟩) n cap, .string f, .string x]) ∧ OwnFl w' w.heap.size 55 g n cap fs ∧ n ≤ 6 ∧ (∀ y ∈ fs, y.1.size ≤ 100 ∧ y.2.size ≤ 100) ∧ f.size ≤ 100 ∧ x.size ≤ 100 ∧ Below w.heap.size w w' := by
  obtain ⟨i0, hi, hz0, hz1, hz2⟩ := info_parts Try.infoFile
  go_enter Try.func15, Try.ntmps15
  go_wp2_with fail
  refine (l1New_any S hS _ hc hl).mono ?_
  rintro e w1 ⟨rfl, hc1, hb1⟩
  obtain ⟨gc, hgc⟩ : ∃ gc, gc = w.heap.size := ⟨_, rfl⟩
  rw [← hgc] at hc1 ⊢
  have H0 : ∀ o : Obj, (∀ j, j < 6 → ∃ x, (w1.alloc o).cell? ⟨w1.heap.size, j, none⟩ = some (.string x) ∧ x.size ≤ 100) → PrW S w ((w1.alloc o).alloc (.cells #[] 55)) gc w1.heap.size (start S) (w1.heap.size + 1) 0 0 [] := by
    intro o ho
    have b1 : Below w1.heap.size w1 ((w1.alloc o).alloc (.cells #[] 55)) := ((Below.refl _ _).alloc (Nat.le_refl _) _).alloc (by show _ ≤ (w1.heap.push _).size; simp) _
    have hlt := curW_lt hc1
    have hsz : (w1.alloc o).heap.size = w1.heap.size + 1 := by show (w1.heap.push _).size = _; simp
    refine ⟨curW_below hc1 b1 hlt, fun j hj => ?_, ⟨hlt, ?_, by omega⟩, ?_, fun x hx => by simp at hx, hb1.trans (b1.mono hb1.size)⟩
    · obtain ⟨x, hx, hxs⟩ := ho j hj
      refine ⟨x, ?_, hxs⟩
      rw [cell_kept (heap_alloc_old _ _ (by rw [hsz]; omega))]
      exact hx
    · show _ < ((w1.heap.push _).push _).size
      simp
      omega
    · have := ownFl_nil (w1.alloc o) 55
      rw [hsz] at this
      exact this
  have HH0 := hidU H0
  have HG := hidU hgc
  clear H0 hgc hc1 hb1
  go_wp2
  go_loopw [7, 8] (fun o i wr => ∃ (k g n cap : Nat) (q : Nat × Int) (fs : List Fl), k ≤ 6 ∧ i = .int .i64 k ∧ o = .slice (some ⟨g, 0, none⟩) n cap ∧ PrW S w wr gc w1.heap.size q g n cap fs ∧ n ≤ k) (fun _ i _ => (6 - intOf i).toNat)
  case atStart =>
    refine ⟨0, _, 0, 0, _, [], by omega, rfl, rfl, HH0.out _ (fun j hj => ?_), Nat.le_refl _⟩
    rw [World.cell?_alloc_new]
    match j, hj with
    | 0, _ | 1, _ | 2, _ | 3, _ | 4, _ | 5, _ => exact ⟨_, rfl, by decide⟩
    | j + 6, hj => omega
  case round =>
    obtain ⟨k, g, n, cap, q, fs, hk, rfl, rfl, hw, hn⟩ := hrel
    have HW := hidU hw
    have hgpl := hw.gpl
    clear hw
    by_cases hlt : k < 6
    · have hlti : (k : Int) < 6 := by omega
      obtain ⟨k1, hk1⟩ : ∃ k1, k1 = k + 1 := ⟨_, rfl⟩
      have ek : (k : Int) + 1 = (k1 : Int) := by omega
      have HK := hidU hk1
      clear hk1
      go_wp2_with fail
      refine (l1Once_any S hS gc q 2 _ HW.out.cur (by omega)).mono ?_
      rintro e w2 ⟨rfl, hc2, hg2⟩
      have HW2 := hidU (HW.out.draw hc2 hg2)
      clear hc2 hg2 HW
      cases ho : ((bw S q 2).1 == 0) with
      | false =>
        go_wp2
        go_roundw
        case rel => exact ⟨k1, g, n, cap, _, fs, by have := HK.out; omega, rfl, rfl, HW2.out, by have := HK.out; omega⟩
        case measure => simp [intOf]; omega
      | true =>
        obtain ⟨x, hx, hxs⟩ := HW2.out.lit k hlt
        have h2 := HW2.out.gpl.2.1
        go_wp2_with (at_builtin; refine app_file w2 rfl _ _ 30 rfl (w1.heap.size + 1) 55 i0 _ Try.underlying30 hi hz0 hz1 hz2 rfl g n cap fs (by rfl) HW2.out.own (x, { data := #[] }) (by rfl) (by omega) ?_; intro g3 cap3 w3 ho3 hg3 hat3)
        go_roundw
        case rel => exact ⟨k1, g3, n + 1, cap3, _, _, by have := HK.out; omega, rfl, rfl, HW2.out.app ho3 hg3 ⟨hxs, by show (0 : Nat) ≤ 100; omega⟩, by have := HK.out; omega⟩
        case measure => simp [intOf]; omega
    · have hlti : ¬ (k : Int) < 6 := by omega
      have hcl := curW_lt HW.out.cur
      go_wp2_with fail
      refine (l1Pick_some S hS gc q wr.heap.size 4 _ (curW_below HW.out.cur ((Below.refl wr.heap.size wr).alloc (Nat.le_refl _) _) hcl) (by omega) (by omega) (by simp) (by omega) ?_).mono ?_
      · intro j hj
        rw [World.cell?_alloc_new]
        match j, hj with
        | 0, _ | 1, _ | 2, _ | 3, _ => exact ⟨_, rfl, by decide⟩
        | j + 4, hj => omega
      rintro e w2 ⟨f, q2, rfl, hfs, hc2, hg2⟩
      have HW2 : Hid (PrW S w w2 gc w1.heap.size q2 g n cap fs) := HW.out.draw hc2 (grown_trans (grown_below (World.grownBy.refl wr _) ((Below.refl wr.heap.size wr).alloc (Nat.le_refl _) _) (Nat.le_refl _)) hg2)
      clear hc2 hg2 HW hcl
      have hcl := curW_lt HW2.out.cur
      go_wp2_with fail
      refine (l1Pick_some S hS gc q2 w2.heap.size 8 _ (curW_below HW2.out.cur ((Below.refl w2.heap.size w2).alloc (Nat.le_refl _) _) hcl) (by omega) (by omega) (by simp) (by omega) ?_).mono ?_
      · intro j hj
        rw [World.cell?_alloc_new]
        match j, hj with
        | 0, _ | 1, _ | 2, _ | 3, _ | 4, _ | 5, _ | 6, _ | 7, _ => exact ⟨_, rfl, by decide⟩
        | j + 8, hj => omega
      rintro e w3 ⟨x, q3, rfl, hxs, hc3, hg3⟩
      have HW3 : Hid (PrW S w w3 gc w1.heap.size q3 g n cap fs) := HW2.out.draw hc3 (grown_trans (grown_below (World.grownBy.refl w2 _) ((Below.refl w2.heap.size w2).alloc (Nat.le_refl _) _) (Nat.le_refl _)) hg3)
      clear hc3 hg3 HW2 hcl
      go_wp2
      go_ret3
      exact ⟨g, n, cap, fs, f, x, rfl, ownFl_lower HW3.out.own (by have := HW3.out.gpl; omega), by omega, HW3.out.few, hfs, hxs, HW3.out.bel⟩
end Go.Proofs.Ytemfbibeoibpeaa
namespace Go.Proofs.Ytemfbibeoibpeaa
open Go.RowKit Go.PlainAid

theorem ownS_blk {w : World} {base g n cap : Nat} {e : TypeId} {xs : List ByteArray} (h : OwnS w base e g n cap xs) : base ≤ g ∧ g < w.heap.size := by
  rcases h.1.2 with ⟨h', _⟩ | ⟨g', cap', cur, h', hb, hg, _⟩
  · simp at h'
  · simp only [Value.slice.injEq, Option.some.injEq, Addr.mk.injEq, and_true, true_and] at h'
    obtain ⟨rfl, rfl⟩ := h'
    exact ⟨hb, (Array.getElem?_eq_some_iff.1 hg).1⟩
theorem ownS_keep {w W : World} {base g n cap : Nat} {e : TypeId} {xs : List ByteArray} (h : OwnS w base e g n cap xs) (hk : W.heap[g]? = w.heap[g]?) : OwnS W base e g n cap xs := by
  refine ⟨⟨h.1.1, ?_⟩, h.2⟩
  rcases h.1.2 with ⟨h', _⟩ | ⟨g', cap', cur, h', hbs, hg, hr⟩
  · simp at h'
  · simp only [Value.slice.injEq, Option.some.injEq, Addr.mk.injEq, and_true, true_and] at h'
    obtain ⟨rfl, rfl⟩ := h'
    exact .inr ⟨g, cap, cur, rfl, hbs, hk.trans hg, hr⟩
theorem ownS_low {w : World} {base b g n cap : Nat} {e : TypeId} {xs : List ByteArray} (h : OwnS w base e g n cap xs) (hb : b ≤ base) : OwnS w b e g n cap xs := by
  refine ⟨⟨h.1.1, ?_⟩, h.2⟩
  rcases h.1.2 with ⟨h', _⟩ | ⟨g', cap', cur, h', hbs, hg, hr⟩
  · simp at h'
  · exact .inr ⟨g', cap', cur, h', Nat.le_trans hb hbs, hg, hr⟩
theorem app_strG {P : Program} (w : World) {ops : Array Oper} {rest : List Oper} {o : Oper} {a : Act} {Q : Exit → Act → World → Prop} (hgd : o.guard = none) (s x : Operand) (t : TypeId)
    (ho : o.op = .call { callee := .builtin .append, args := #[s, x], argTypes := #[t, t] })
    (base : Nat) (e : TypeId) (i : TypeInfo) (z : Value) (ht : P.underlying t = some (.slice e)) (hi : P.info? e = some i) (hz : i.zero = some z) (hsize : i.size = 1) (hby : i.bytes = 16) (hzs : z.cells.size = 1)
    (g n cap : Nat) (xs : List ByteArray) (hs : a.eval s = .slice (some ⟨g, 0, none⟩) n cap) (hown : OwnS w base e g n cap xs)
    (b : ByteArray) (hx : a.eval x = .slice (some ⟨w.heap.size, 0, none⟩) 1 1) (hn : n + 1 ≤ 1000000)
    (h : ∀ g' cap' w', OwnS w' base e g' (n + 1) cap' (xs ++ [b]) → w.grownBy w' (some g) → (g' = g ∨ w.heap.size < g') → wpList P ops Q rest (a.put o.dst (.slice (some ⟨g', 0, none⟩) (n + 1) cap')) w') :
    wpList P ops Q (o :: rest) a (w.alloc (.cells #[.string b] e)) := by
  obtain ⟨hb0, hb1⟩ := ownS_blk hown
  refine wpList_append_own_at _ hgd s x t ho base e i z 1 16 ht hi hz hsize hby hzs (by decide) _ n _ hs (hown.1.alloc _) ⟨w.heap.size, 0, none⟩ 1 1 [.string b] hx rfl ?_ ?_ ?_ ?_ ?_ ?_
  · intro j u hj
    match j, hj with
    | 0, hj =>
      simp at hj
      subst hj
      simp [Addr.add]
  · intro u hu
    simp at hu
    subst hu
    rfl
  · unfold maxLen; omega
  · omega
  · simp; omega
  · intro v' w' k1 k2 k3 k4
    rcases k1.2 with ⟨hv, hn0⟩ | ⟨g', cap', cur, rfl, hrest⟩
    · omega
    · refine h g' cap' w' ⟨by rw [List.map_append]; exact k1, by rw [List.length_append]; have := hown.2; simp; omega⟩ ?_ ?_
      · have k2' : (w.alloc (.cells #[.string b] e)).grownBy w' (some g) := k2
        have hsz : (w.alloc (.cells #[.string b] e)).heap.size = w.heap.size + 1 := by show (w.heap.push _).size = _; simp
        exact ⟨k2'.os, k2'.tape, k2'.output, by have := k2'.size; omega, fun k hk hne => (k2'.block k (by omega) hne).trans (heap_alloc_old w _ hk)⟩
      · have k4' : some g' = some g ∨ some g' = some (w.alloc (.cells #[.string b] e)).heap.size := k4
        rcases k4' with k | k
        · exact .inl (Option.some.inj k)
        · right
          have := Option.some.inj k
          rw [this]
          show w.heap.size < (w.heap.push _).size
          simp
def inT (l : List ByteArray) (s : ByteArray) : Bool := l.any fun y => y.toList == s.toList
theorem inT_yes {l : List ByteArray} {s : ByteArray} {j : Nat} {x : ByteArray} (hx : l[j]? = some x) (h : (x.toList == s.toList) = true) : inT l s = true := List.any_eq_true.2 ⟨x, List.mem_of_getElem? hx, h⟩
theorem inT_no {l : List ByteArray} {s : ByteArray} (h : ∀ (j : Nat) (x : ByteArray), l[j]? = some x → (x.toList == s.toList) = false) : inT l s = false := by
  unfold inT
  rw [List.any_eq_false]
  intro x hx
  obtain ⟨j, hj, rfl⟩ := List.getElem_of_mem hx
  rw [h j _ (List.getElem?_eq_getElem hj)]
  decide
end Go.Proofs.Ytemfbibeoibpeaa
namespace Go.Proofs.Ytemfbibeoibpeaa
open Go.RowKit Go.PlainAid

def begB (a s : ByteArray) : Bool := decide (a.size ≤ s.size) && ((s.extract 0 a.size).toList == a.toList)
theorem begins_spec (a s : ByteArray) (w : World) (_ : s.size ≤ 9223372036854775807) (_ : a.size ≤ 9223372036854775807) :
    Calls Try.prog 37 #[.string a, .string s] w fun e w' => e = .returned (.bool (begB a s)) ∧ w' = w := by
  by_cases h : a.size ≤ s.size
  · have HB : Hid (begB a s = ((s.extract 0 a.size).toList == a.toList)) := by show begB a s = _; rw [begB, decide_eq_true h, Bool.true_and]
    go_enter Try.func37, Try.ntmps37
    go_wp2
    go_ret
    exact ⟨ret_bool HB.out.symm, rfl⟩
  · have HB : Hid (begB a s = false) := by show begB a s = _; rw [begB, decide_eq_false h, Bool.false_and]
    go_enter Try.func37, Try.ntmps37
    go_wp2
    go_ret
    exact ⟨ret_bool HB.out.symm, rfl⟩

def dirTo (s : ByteArray) : Nat → Nat
  | 0 => 0
  | k + 1 => if bt s k = 47 then k + 1 else dirTo s k
theorem dirTo_bd (s : ByteArray) (h : bt s 0 = 47) (k : Nat) (hk : 1 ≤ k) : 1 ≤ dirTo s k ∧ dirTo s k ≤ k := by
  induction k with
  | zero => omega
  | succ k ih =>
    unfold dirTo
    split
    · omega
    · rename_i hne
      by_cases e : k = 0
      · subst e; exact absurd h hne
      · have := ih (by omega)
        omega
theorem dirTo_yes {s : ByteArray} {k : Nat} (h : bt s k = 47) : dirTo s (k + 1) = k + 1 := by rw [dirTo, if_pos h]
theorem dirTo_no {s : ByteArray} {k : Nat} (h : ¬ bt s k = 47) : dirTo s (k + 1) = dirTo s k := by rw [dirTo, if_neg h]
def resolveS (f sp : ByteArray) : ByteArray :=
  if pathB f = false then { data := #[] } else if begB { data := #[47] } sp = true then cleanS sp
  else if begB { data := #[46, 47] } sp = false ∧ begB { data := #[46, 46, 47] } sp = false then cleanS ({ data := #[47, 108, 105, 98, 47] } ++ sp)
  else cleanS (f.extract 0 (dirTo f f.size) ++ sp)

set_option maxRecDepth 100000 in
set_option maxHeartbeats 1600000 in
theorem resolve_spec (f sp : ByteArray) (w : World) (hf : f.size ≤ 9223372036854775807) (hsp : sp.size ≤ 1048576) :
    Calls Try.prog 38 #[.string f, .string sp] w fun e w' => e = .returned (.string (resolveS f sp)) ∧ Below w.heap.size w w' := by
  have l1 : ({ data := #[47] } : ByteArray).size = 1 := rfl
  have l2 : ({ data := #[46, 47] } : ByteArray).size = 2 := rfl
  have l3 : ({ data := #[46, 46, 47] } : ByteArray).size = 3 := rfl
  by_cases hp : pathB f = true
  · have hp1 : 1 ≤ f.size := (pathB_iff.1 hp).1
    have hp2 : f.size ≤ 40 := (pathB_iff.1 hp).2.1
    have E0 : Hid (bt f 0 = 47) := (pathB_iff.1 hp).2.2.1
    by_cases h1 : begB { data := #[47] } sp = true
    · have HR : Hid (resolveS f sp = cleanS sp) := by show resolveS f sp = _; rw [resolveS, if_neg (by rw [hp]; simp), if_pos h1]
      clear l1 l2 l3
      go_enter Try.func38, Try.ntmps38
      go_wp2_with fail
      refine (l2Path_any _ _ hf).mono ?_
      rintro e w' ⟨rfl, rfl⟩
      go_wp2_with fail
      refine (begins_spec _ _ _ (by omega) (by decide)).mono ?_
      rintro e w' ⟨rfl, rfl⟩
      go_wp2_with fail
      refine (clean_spec _ _ (by omega)).mono ?_
      rintro e w1 ⟨rfl, hb1⟩
      go_wp2
      go_ret
      exact ⟨ret_str HR.out.symm, hb1⟩
    · have h1' : begB { data := #[47] } sp = false := by simpa using h1
      by_cases h2 : begB { data := #[46, 47] } sp = false ∧ begB { data := #[46, 46, 47] } sp = false
      · obtain ⟨h2a, h2b⟩ := h2
        have HR : Hid (resolveS f sp = cleanS ({ data := #[47, 108, 105, 98, 47] } ++ sp)) := by show resolveS f sp = _; rw [resolveS, if_neg (by rw [hp]; simp), if_neg h1, if_pos ⟨h2a, h2b⟩]
        have hz : ({ data := #[47, 108, 105, 98, 47] } : ByteArray).size = 5 := rfl
        clear l1 l2 l3 h1
        go_enter Try.func38, Try.ntmps38
        go_wp2_with fail
        refine (l2Path_any _ _ hf).mono ?_
        rintro e w' ⟨rfl, rfl⟩
        go_wp2_with fail
        refine (begins_spec _ _ _ (by omega) (by decide)).mono ?_
        rintro e w' ⟨rfl, rfl⟩
        go_wp2_with fail
        refine (begins_spec _ _ _ (by omega) (by decide)).mono ?_
        rintro e w' ⟨rfl, rfl⟩
        go_wp2_with fail
        refine (begins_spec _ _ _ (by omega) (by decide)).mono ?_
        rintro e w' ⟨rfl, rfl⟩
        go_wp2_with fail
        refine (clean_spec _ _ (by rw [ByteArray.size_append, hz]; omega)).mono ?_
        rintro e w1 ⟨rfl, hb1⟩
        go_wp2
        go_ret
        exact ⟨ret_str HR.out.symm, hb1⟩
      · have HR : Hid (resolveS f sp = cleanS (f.extract 0 (dirTo f f.size) ++ sp)) := by show resolveS f sp = _; rw [resolveS, if_neg (by rw [hp]; simp), if_neg h1, if_neg h2]
        have hb := get_bt f
        clear l1 l2 l3 h1
        by_cases h2a : begB { data := #[46, 47] } sp = true
        · clear h2
          go_enter Try.func38, Try.ntmps38
          go_wp2_with fail
          refine (l2Path_any _ _ hf).mono ?_
          rintro e w' ⟨rfl, rfl⟩
          go_wp2_with fail
          refine (begins_spec _ _ _ (by omega) (by decide)).mono ?_
          rintro e w' ⟨rfl, rfl⟩
          go_wp2_with fail
          refine (begins_spec _ _ _ (by omega) (by decide)).mono ?_
          rintro e w' ⟨rfl, rfl⟩
          go_wp2
          go_loop [5] (fun v => ∃ k : Nat, 1 ≤ k ∧ k ≤ f.size ∧ v = .int .i64 k ∧ dirTo f k = dirTo f f.size) (fun v => (intOf v).toNat)
          case atStart => exact ⟨f.size, hp1, Nat.le_refl _, rfl, rfl⟩
          case round =>
            obtain ⟨k0, hk1, hk2, rfl, hd⟩ := hrel
            have HD : Hid (dirTo f k0 = dirTo f f.size) := hd
            clear hd
            match k0, hk1, hk2, HD with
            | k + 1, _, hk2, HD =>
              have ez : ((k + 1 : Nat) : Int) = (k : Int) + 1 := by omega
              have hks : k < f.size := by omega
              have hb0 := bt_nonneg f k
              have hb1 := bt_le f k
              by_cases hq : bt f k = 47
              · have HE : Hid (resolveS f sp = cleanS (f.extract 0 (k + 1) ++ sp)) := by
                  show resolveS f sp = _
                  rw [HR.out, ← HD.out, dirTo_yes hq]
                have hq' : (bt f k != 47) = false := by simp [hq]
                have hsz : (f.extract 0 (k + 1)).size ≤ 40 := by rw [ByteArray.size_extract]; omega
                clear hq
                go_wp2_with fail
                refine (clean_spec _ _ (by rw [ByteArray.size_append]; omega)).mono ?_
                rintro e w1 ⟨rfl, hb1⟩
                go_wp2
                go_ret
                exact ⟨ret_str HE.out.symm, hb1⟩
              · have HN : Hid (dirTo f k = dirTo f f.size) := by show dirTo f k = _; rw [← HD.out, dirTo_no hq]
                have hk0 : 1 ≤ k := by
                  rcases Nat.eq_zero_or_pos k with e | e
                  · subst e; exact absurd E0.out hq
                  · exact e
                have hq' : (bt f k != 47) = true := by simpa using hq
                clear hq
                go_wp2
                go_round
                case rel => exact ⟨k, hk0, by omega, by go_num, HN.out⟩
                case measure => simp [intOf]
        · have h2a' : begB { data := #[46, 47] } sp = false := by simpa using h2a
          have h2b : begB { data := #[46, 46, 47] } sp = true := by
            rcases hx : begB { data := #[46, 46, 47] } sp with _ | _
            · exact absurd ⟨h2a', hx⟩ h2
            · rfl
          clear h2 h2a
          go_enter Try.func38, Try.ntmps38
          go_wp2_with fail
          refine (l2Path_any _ _ hf).mono ?_
          rintro e w' ⟨rfl, rfl⟩
          go_wp2_with fail
          refine (begins_spec _ _ _ (by omega) (by decide)).mono ?_
          rintro e w' ⟨rfl, rfl⟩
          go_wp2_with fail
          refine (begins_spec _ _ _ (by omega) (by decide)).mono ?_
          rintro e w' ⟨rfl, rfl⟩
          go_wp2_with fail
          refine (begins_spec _ _ _ (by omega) (by decide)).mono ?_
          rintro e w' ⟨rfl, rfl⟩
          go_wp2
          go_loop [5] (fun v => ∃ k : Nat, 1 ≤ k ∧ k ≤ f.size ∧ v = .int .i64 k ∧ dirTo f k = dirTo f f.size) (fun v => (intOf v).toNat)
          case atStart => exact ⟨f.size, hp1, Nat.le_refl _, rfl, rfl⟩
          case round =>
            obtain ⟨k0, hk1, hk2, rfl, hd⟩ := hrel
            have HD : Hid (dirTo f k0 = dirTo f f.size) := hd
            clear hd
            match k0, hk1, hk2, HD with
            | k + 1, _, hk2, HD =>
              have ez : ((k + 1 : Nat) : Int) = (k : Int) + 1 := by omega
              have hks : k < f.size := by omega
              have hb0 := bt_nonneg f k
              have hb1 := bt_le f k
              by_cases hq : bt f k = 47
              · have HE : Hid (resolveS f sp = cleanS (f.extract 0 (k + 1) ++ sp)) := by
                  show resolveS f sp = _
                  rw [HR.out, ← HD.out, dirTo_yes hq]
                have hq' : (bt f k != 47) = false := by simp [hq]
                have hsz : (f.extract 0 (k + 1)).size ≤ 40 := by rw [ByteArray.size_extract]; omega
                clear hq
                go_wp2_with fail
                refine (clean_spec _ _ (by rw [ByteArray.size_append]; omega)).mono ?_
                rintro e w1 ⟨rfl, hb1⟩
                go_wp2
                go_ret
                exact ⟨ret_str HE.out.symm, hb1⟩
              · have HN : Hid (dirTo f k = dirTo f f.size) := by show dirTo f k = _; rw [← HD.out, dirTo_no hq]
                have hk0 : 1 ≤ k := by
                  rcases Nat.eq_zero_or_pos k with e | e
                  · subst e; exact absurd E0.out hq
                  · exact e
                have hq' : (bt f k != 47) = true := by simpa using hq
                clear hq
                go_wp2
                go_round
                case rel => exact ⟨k, hk0, by omega, by go_num, HN.out⟩
                case measure => simp [intOf]
  · have hp' : pathB f = false := by simpa using hp
    have HR : Hid (resolveS f sp = { data := #[] }) := by show resolveS f sp = _; rw [resolveS, if_pos hp']
    clear hp
    go_enter Try.func38, Try.ntmps38
    go_wp2_with fail
    refine (l2Path_any _ _ hf).mono ?_
    rintro e w' ⟨rfl, rfl⟩
    go_wp2
    go_ret
    exact ⟨ret_str HR.out.symm, Below.refl _ _⟩
end Go.Proofs.Ytemfbibeoibpeaa
namespace Go.Proofs.Ytemfbibeoibpeaa
open Go.RowKit Go.PlainAid

abbrev tJs : ByteArray := { data := #[46, 106, 115] }
abbrev tIndex : ByteArray := { data := #[47, 105, 110, 100, 101, 120, 46, 106, 115] }
abbrev tLib : ByteArray := { data := #[47, 108, 105, 98, 47] }
def trio (b : ByteArray) : List ByteArray := [b, b ++ tJs, b ++ tIndex]
def addC (out : List ByteArray) (x : ByteArray) : List ByteArray := if pathB x && !inT out x then out ++ [x] else out
def candB (out : List ByteArray) (b : ByteArray) : List ByteArray := if b.toList.isEmpty then out else (trio b).foldl addC out
def candF (bs : List ByteArray) : List ByteArray := bs.foldl candB []
def relB (sp : ByteArray) : Bool := begB { data := #[47] } sp || begB { data := #[46, 47] } sp || begB { data := #[46, 46, 47] } sp
def libC (sp u : ByteArray) : ByteArray := cleanS (u ++ tLib ++ sp)
def baseC (f sp : ByteArray) : List ByteArray := if relB sp then [resolveS f sp] else (upL f).map (libC sp)
def candS (f sp : ByteArray) : List ByteArray := if pathB f then candF (baseC f sp) else []
theorem addC_yes {out : List ByteArray} {x : ByteArray} (h1 : pathB x = true) (h2 : inT out x = false) : addC out x = out ++ [x] := by rw [addC, h1, h2]; rfl
theorem addC_path {out : List ByteArray} {x : ByteArray} (h1 : pathB x = false) : addC out x = out := by rw [addC, h1]; rfl
theorem addC_in {out : List ByteArray} {x : ByteArray} (h2 : inT out x = true) : addC out x = out := by rw [addC, h2, Bool.not_true, Bool.and_false]; rfl
theorem addC_len (out : List ByteArray) (x : ByteArray) : (addC out x).length ≤ out.length + 1 := by
  unfold addC
  split
  · simp
  · omega
theorem foldC_len (l : List ByteArray) : ∀ out : List ByteArray, (l.foldl addC out).length ≤ out.length + l.length := by
  induction l with
  | nil => intro out; exact Nat.le_refl _
  | cons x l ih =>
    intro out
    have h1 := ih (addC out x)
    have h2 := addC_len out x
    rw [List.foldl_cons, List.length_cons]
    omega
theorem candB_len (out : List ByteArray) (b : ByteArray) : (candB out b).length ≤ out.length + 3 := by
  unfold candB
  split
  · omega
  · exact foldC_len (trio b) out
theorem candB_fold (l : List ByteArray) : ∀ out : List ByteArray, (l.foldl candB out).length ≤ out.length + 3 * l.length := by
  induction l with
  | nil => intro out; exact Nat.le_refl _
  | cons x l ih =>
    intro out
    have h1 := ih (candB out x)
    have h2 := candB_len out x
    rw [List.foldl_cons, List.length_cons]
    omega
theorem candF_len (bs : List ByteArray) : (candF bs).length ≤ 3 * bs.length := by
  have := candB_fold bs []
  rw [List.length_nil, Nat.zero_add] at this
  exact this
theorem fold_take {α β : Type} (f : β → α → β) (a : β) {l : List α} {j : Nat} {x : α} (h : l[j]? = some x) : (l.take (j + 1)).foldl f a = f ((l.take j).foldl f a) x := by
  obtain ⟨hj, rfl⟩ := List.getElem?_eq_some_iff.1 h
  rw [List.take_succ_eq_append_getElem hj, List.foldl_append]
  rfl
theorem map_take {α β : Type} (f : α → β) {l : List α} {j : Nat} {x : α} (h : l[j]? = some x) : (l.take (j + 1)).map f = (l.take j).map f ++ [f x] := by
  obtain ⟨hj, rfl⟩ := List.getElem?_eq_some_iff.1 h
  rw [List.take_succ_eq_append_getElem hj, List.map_append]
  rfl
theorem clean_2000 (s : ByteArray) : (cleanS s).size ≤ 2000 := by
  cases hp : pathB s with
  | false => rw [cleanS_no hp]; exact Nat.zero_le _
  | true =>
    by_cases h0 : (parts s).length = 0
    · rw [cleanS_root hp h0]
      show 1 ≤ 2000
      omega
    · rw [cleanS_yes hp h0]
      have h1 := joinTo_size s (parts s) (clTo_sizes s _) (parts s).length
      have hsz : s.size ≤ 40 := (pathB_iff.1 hp).2.1
      have h2 : (parts s).length * (s.size + 1) ≤ 41 * 41 := Nat.mul_le_mul (by have : (parts s).length ≤ s.size + 1 := (clTo_bd s _).2; omega) (by omega)
      omega
theorem upL_len (p : ByteArray) (h : (cleanS p).size ≤ 2000) : (upL p).length ≤ 2001 := by
  unfold upL upC
  have := upTo_len (cleanS p) ((cleanS p).size - 1)
  rw [List.length_append]
  split
  · simp; omega
  · simp; omega
theorem up_size (c : ByteArray) (k : Nat) : ∀ x ∈ upTo c k, x.size ≤ c.size := by
  induction k with
  | zero => intro x hx; cases hx
  | succ k ih =>
    intro x hx
    rw [upTo] at hx
    rcases List.mem_append.1 hx with hx | hx
    · split at hx
      · rw [List.mem_singleton] at hx
        rw [hx, ByteArray.size_extract]
        omega
      · cases hx
    · exact ih x hx
theorem upL_size (p : ByteArray) : ∀ x ∈ upL p, x.size ≤ (cleanS p).size + 1 := by
  intro x hx
  unfold upL upC at hx
  rcases List.mem_append.1 hx with hx | hx
  · have := up_size _ _ x hx
    omega
  · split at hx
    · rw [List.mem_singleton] at hx
      rw [hx]
      show 1 ≤ _
      omega
    · cases hx
theorem baseC_len (f sp : ByteArray) : (baseC f sp).length ≤ 2001 := by
  unfold baseC
  split
  · simp
  · rw [List.length_map]; exact upL_len f (clean_2000 f)
theorem resolve_2000 (f sp : ByteArray) : (resolveS f sp).size ≤ 2000 := by
  unfold resolveS
  split
  · exact Nat.zero_le _
  · split
    · exact clean_2000 _
    · split
      · exact clean_2000 _
      · exact clean_2000 _
theorem baseC_size (f sp : ByteArray) : ∀ x ∈ baseC f sp, x.size ≤ 2000 := by
  unfold baseC
  split
  · intro x hx
    rw [List.mem_singleton] at hx
    rw [hx]
    exact resolve_2000 f sp
  · intro x hx
    obtain ⟨u, _, rfl⟩ := List.mem_map.1 hx
    exact clean_2000 _
theorem candF_succ {bs : List ByteArray} {k : Nat} {b : ByteArray} (h : bs[k]? = some b) : candF (bs.take (k + 1)) = candB (candF (bs.take k)) b := fold_take candB [] h
theorem candB_empty {out : List ByteArray} {b : ByteArray} (h : b.toList.isEmpty = true) : candB out b = out := by rw [candB, if_pos h]
theorem candB_some {out : List ByteArray} {b : ByteArray} (h : b.toList.isEmpty = false) : candB out b = (trio b).foldl addC out := by rw [candB, h]; rfl
theorem trio_at (b : ByteArray) {m : Nat} (h : m < 3) : ∃ x, (trio b)[m]? = some x ∧ x.size ≤ b.size + 9 := by
  match m, h with
  | 0, _ => exact ⟨b, rfl, by omega⟩
  | 1, _ => exact ⟨b ++ tJs, rfl, by rw [ByteArray.size_append]; show b.size + 3 ≤ _; omega⟩
  | 2, _ => exact ⟨b ++ tIndex, rfl, by rw [ByteArray.size_append]; exact Nat.le_refl _⟩
theorem trio_cell {w : World} {g : Nat} {e : TypeId} {b x : ByteArray} {m : Nat} (h : w.heap[g]? = some (.cells #[.string b, .string (b ++ tJs), .string (b ++ tIndex)] e (0, 0))) (hx : (trio b)[m]? = some x) : w.cell? ⟨g, m, none⟩ = some (.string x) := by
  match m, hx with
  | 0, hx => cases hx; simp [World.cell?, h]
  | 1, hx => cases hx; simp [World.cell?, h]
  | 2, hx => cases hx; simp [World.cell?, h]
end Go.Proofs.Ytemfbibeoibpeaa
namespace Go.Proofs.Ytemfbibeoibpeaa
open Go.RowKit Go.PlainAid

def CandOk (l : List ByteArray) : Prop := ∀ (j : Nat) (x : ByteArray), l[j]? = some x → pathB x = true ∧ inT (l.take j) x = false
theorem candOk_nil : CandOk [] := fun j x h => by simp at h
theorem candOk_add {l : List ByteArray} (h : CandOk l) (x : ByteArray) : CandOk (addC l x) := by
  by_cases h1 : pathB x = true
  · by_cases h2 : inT l x = true
    · rw [addC_in h2]; exact h
    · have h2' : inT l x = false := by simpa using h2
      rw [addC_yes h1 h2']
      intro j y hy
      rcases Nat.lt_trichotomy j l.length with g | g | g
      · rw [List.getElem?_append_left g] at hy
        rw [List.take_append_of_le_length (Nat.le_of_lt g)]
        exact h j y hy
      · subst g
        rw [List.getElem?_concat_length] at hy
        obtain rfl := Option.some.inj hy
        rw [List.take_append_of_le_length (Nat.le_refl _), List.take_length]
        exact ⟨h1, h2'⟩
      · rw [List.getElem?_eq_none (by simp; omega)] at hy
        cases hy
  · rw [addC_path (by simpa using h1)]; exact h
theorem candOk_fold (xs : List ByteArray) : ∀ l : List ByteArray, CandOk l → CandOk (xs.foldl addC l) := by
  induction xs with
  | nil => intro l h; exact h
  | cons x xs ih => intro l h; exact ih _ (candOk_add h x)
theorem candOk_b {l : List ByteArray} (h : CandOk l) (b : ByteArray) : CandOk (candB l b) := by
  cases hb : b.toList.isEmpty with
  | true => rw [candB_empty hb]; exact h
  | false => rw [candB_some hb]; exact candOk_fold _ _ h
theorem candOk_bs (bs : List ByteArray) : ∀ l : List ByteArray, CandOk l → CandOk (bs.foldl candB l) := by
  induction bs with
  | nil => intro l h; exact h
  | cons b bs ih => intro l h; exact ih _ (candOk_b h b)
theorem candS_ok (f sp : ByteArray) : CandOk (candS f sp) := by
  unfold candS
  split
  · exact candOk_bs _ _ candOk_nil
  · exact candOk_nil
end Go.Proofs.Ytemfbibeoibpeaa
