/-
  What spec.DrawReadFiles and spec.DrawPutFile tell: some text, some files and a file, none of them long: the walks.
  What spec.l2Begins and spec.Resolve answer: the walks.
  Candidates of a request, as plain functions. No program is spoken of.
  What spec.DrawPutFile tells: some files and a file, none of them long: the walk.
  What laws.sameFiles answers of two rows of the same files, the model's != of files handed in: the walk.
-/
import Derived.Deep.RegionHeld3
import Derived.Test.YtdbpknmoacjodaaCfDrawFilesToDrawProgC
import Derived.Test.YtdbpknmoacjodaaCfSpecFilesToSpecShow
namespace Go.Proofs.Ytdbpknmoacjodaa
open Go.RowKit Go.PlainAid Go.Sort

theorem show_small (len : Nat) (Pt Tx : Nat → ByteArray) : (showS len Pt Tx).size ≤ 20000 := by
  cases h : filesB len Pt Tx with
  | false => unfold showS; rw [h]; exact Nat.zero_le _
  | true =>
    have h1 := showTo_size h (headF len) len (Nat.le_refl _)
    have h2 := head_size len
    have h3 := (files_small h).1
    unfold showS
    rw [if_pos h]
    omega
theorem fs_sizes {fs : List Fl} {N M : Nat} (h : ∀ y ∈ fs, y.1.size ≤ N ∧ y.2.size ≤ M) (j : Nat) (hj : j < fs.length) : (ptOf fs j).size ≤ N ∧ (txOf fs j).size ≤ M := by
  have := h fs[j] (List.getElem_mem hj)
  unfold ptOf txOf
  simp only [List.getD]
  rw [List.getElem?_eq_getElem hj]
  exact this
def TextOut (N : Nat) (w : World) (e : Ending) (w' : World) : Prop := ∃ t, e = .returned (.string t) ∧ t.size ≤ N ∧ Below w.heap.size w w'
set_option maxRecDepth 100000 in
set_option maxHeartbeats 800000 in
theorem drawReadFiles_some (S : Src) (hS : S.ok) (w : World) (hc : CodeW S w) (hl : S.lim ≤ w.heap.size) :
    Calls Try.prog 33 #[.slice S.a S.len S.cap] w (TextOut 30000 w) := by
  go_enter Try.func33, Try.ntmps33
  go_wp2_with fail
  refine (l1New_any S hS _ hc hl).mono ?_
  rintro e w1 ⟨rfl, hc1, hb1⟩
  obtain ⟨gc, hgc⟩ : ∃ gc, gc = w.heap.size := ⟨_, rfl⟩
  rw [← hgc] at hc1 ⊢
  have HG : Hid (w.heap.size ≤ gc) := Nat.le_of_eq hgc.symm
  clear hgc
  go_wp2_with fail
  have h7 := l7Files_some S hS gc 2 (by omega) _ _ hc1
  rw [show ((2 : Nat) : Int) = 2 from rfl] at h7
  refine h7.mono ?_
  clear h7
  rintro e w2 ⟨g, n, cap, fs, q2, rfl, own2, hn2, few2, hc2, hg2⟩
  have B2 := hidI (below_grown hb1 hg2 HG.out hb1.size)
  have HL : Hid (n ≤ fs.length) := Nat.le_of_eq own2.2
  go_wp2_with fail
  refine (showFiles_specC g n cap (ptOf fs) (txOf fs) _ (ownFl_files own2) (by omega) (fun j hj => by have := (fs_sizes few2 j (Nat.lt_of_lt_of_le hj HL.out)).1; omega) (fun j hj => by have := (fs_sizes few2 j (Nat.lt_of_lt_of_le hj HL.out)).2; omega)).mono ?_
  rintro e w3 ⟨rfl, hb3⟩
  have C3 := hidI (curW_below hc2 hb3 (curW_lt hc2))
  have B3 := hidI (B2.out.trans (hb3.mono B2.out.size))
  have hs := show_small n (ptOf fs) (txOf fs)
  clear hb3 hc2 hg2 own2 few2 hc1 hb1 B2
  generalize showS n (ptOf fs) (txOf fs) = s at *
  go_wp2_with fail
  refine (l1Once_any S hS gc q2 3 _ C3.out (by omega)).mono ?_
  rintro e w4 ⟨rfl, hc, hg⟩
  obtain ⟨q4, hq⟩ : ∃ q', (bw S q2 3).2 = q' := ⟨_, rfl⟩
  rw [hq] at hc
  have C4 := hidI hc
  have B4 := hidI (below_grown B3.out hg HG.out B3.out.size)
  clear hc hg hq C3 B3
  generalize ((bw S q2 3).1 == 0) = b
  cases b with
  | false =>
    go_wp2
    go_ret
    exact ⟨s, rfl, by omega, B4.out⟩
  | true =>
    go_wp2_with fail
    refine (l1Spoil_any S hS gc q4 s _ C4.out (by omega)).mono ?_
    rintro e w5 ⟨rfl, hc, hg⟩
    have hz := spoil_le S q4 s
    have B5 := hidI (below_grown B4.out hg HG.out B4.out.size)
    clear hc hg
    generalize spoil S q4 s = y at *
    go_wp2
    go_ret
    exact ⟨y.1, rfl, by omega, B5.out⟩
def Src.from (S : Src) (m : Nat) : Src := ⟨if S.cap = m then S.a else S.a.map fun x => x.add m, S.len - m, S.cap - m, fun j => S.Z (m + j), S.lim⟩
theorem from_ok {S : Src} (h : S.ok) (m : Nat) : (S.from m).ok := ⟨by have := h.1; show S.len - m ≤ _; omega, fun j => h.2 _⟩
theorem from_code {S : Src} {w : World} (h : CodeW S w) {m : Nat} (hc : S.len ≤ S.cap) : CodeW (S.from m) w := by
  intro j hj
  have hj' : j < S.len - m := hj
  obtain ⟨b, off, h1, h2, h3⟩ := h (m + j) (by omega)
  refine ⟨b, off + m, ?_, h2, by rw [Nat.add_assoc]; exact h3⟩
  show (if S.cap = m then S.a else S.a.map fun x => x.add m) = _
  rw [if_neg (by omega), h1]
  have hplain : (⟨b, off, none⟩ : Addr).add m = ⟨b, off + m, none⟩ := by unfold Addr.add; split <;> simp_all
  exact congrArg some hplain
end Go.Proofs.Ytdbpknmoacjodaa
namespace Go.Proofs.Ytdbpknmoacjodaa
open Go.RowKit Go.PlainAid

def dirTo (s : ByteArray) : Nat → Nat
  | 0 => 0
  | k + 1 => if bt s k = 47 then k + 1 else dirTo s k
theorem dirTo_bd (s : ByteArray) (h : bt s 0 = 47) (k : Nat) (hk : 1 ≤ k) : 1 ≤ dirTo s k ∧ dirTo s k ≤ k := by
  induction k with
  | zero => omega
  | succ k ih =>
    unfold dirTo
    split
    · omega
    · rename_i hne
      by_cases e : k = 0
      · subst e; exact absurd h hne
      · have := ih (by omega)
        omega
theorem dirTo_yes {s : ByteArray} {k : Nat} (h : bt s k = 47) : dirTo s (k + 1) = k + 1 := by rw [dirTo, if_pos h]
theorem dirTo_no {s : ByteArray} {k : Nat} (h : ¬ bt s k = 47) : dirTo s (k + 1) = dirTo s k := by rw [dirTo, if_neg h]
def resolveS (f sp : ByteArray) : ByteArray :=
  if pathB f = false then { data := #[] } else if begB { data := #[47] } sp = true then cleanS sp
  else if begB { data := #[46, 47] } sp = false ∧ begB { data := #[46, 46, 47] } sp = false then cleanS ({ data := #[47, 108, 105, 98, 47] } ++ sp)
  else cleanS (f.extract 0 (dirTo f f.size) ++ sp)

end Go.Proofs.Ytdbpknmoacjodaa
namespace Go.Proofs.Ytdbpknmoacjodaa
open Go.RowKit Go.PlainAid

abbrev tJs : ByteArray := { data := #[46, 106, 115] }
abbrev tIndex : ByteArray := { data := #[47, 105, 110, 100, 101, 120, 46, 106, 115] }
abbrev tLib : ByteArray := { data := #[47, 108, 105, 98, 47] }
def trio (b : ByteArray) : List ByteArray := [b, b ++ tJs, b ++ tIndex]
def addC (out : List ByteArray) (x : ByteArray) : List ByteArray := if pathB x && !inT out x then out ++ [x] else out
def candB (out : List ByteArray) (b : ByteArray) : List ByteArray := if b.toList.isEmpty then out else (trio b).foldl addC out
def candF (bs : List ByteArray) : List ByteArray := bs.foldl candB []
def relB (sp : ByteArray) : Bool := begB { data := #[47] } sp || begB { data := #[46, 47] } sp || begB { data := #[46, 46, 47] } sp
def libC (sp u : ByteArray) : ByteArray := cleanS (u ++ tLib ++ sp)
def baseC (f sp : ByteArray) : List ByteArray := if relB sp then [resolveS f sp] else (upL f).map (libC sp)
def candS (f sp : ByteArray) : List ByteArray := if pathB f then candF (baseC f sp) else []
theorem addC_yes {out : List ByteArray} {x : ByteArray} (h1 : pathB x = true) (h2 : inT out x = false) : addC out x = out ++ [x] := by rw [addC, h1, h2]; rfl
theorem addC_path {out : List ByteArray} {x : ByteArray} (h1 : pathB x = false) : addC out x = out := by rw [addC, h1]; rfl
theorem addC_in {out : List ByteArray} {x : ByteArray} (h2 : inT out x = true) : addC out x = out := by rw [addC, h2, Bool.not_true, Bool.and_false]; rfl
theorem addC_len (out : List ByteArray) (x : ByteArray) : (addC out x).length ≤ out.length + 1 := by
  unfold addC
  split
  · simp
  · omega
theorem foldC_len (l : List ByteArray) : ∀ out : List ByteArray, (l.foldl addC out).length ≤ out.length + l.length := by
  induction l with
  | nil => intro out; exact Nat.le_refl _
  | cons x l ih =>
    intro out
    have h1 := ih (addC out x)
    have h2 := addC_len out x
    rw [List.foldl_cons, List.length_cons]
    omega
theorem candB_len (out : List ByteArray) (b : ByteArray) : (candB out b).length ≤ out.length + 3 := by
  unfold candB
  split
  · omega
  · exact foldC_len (trio b) out
theorem candB_fold (l : List ByteArray) : ∀ out : List ByteArray, (l.foldl candB out).length ≤ out.length + 3 * l.length := by
  induction l with
  | nil => intro out; exact Nat.le_refl _
  | cons x l ih =>
    intro out
    have h1 := ih (candB out x)
    have h2 := candB_len out x
    rw [List.foldl_cons, List.length_cons]
    omega
theorem candF_len (bs : List ByteArray) : (candF bs).length ≤ 3 * bs.length := by
  have := candB_fold bs []
  rw [List.length_nil, Nat.zero_add] at this
  exact this
theorem fold_take {α β : Type} (f : β → α → β) (a : β) {l : List α} {j : Nat} {x : α} (h : l[j]? = some x) : (l.take (j + 1)).foldl f a = f ((l.take j).foldl f a) x := by
  obtain ⟨hj, rfl⟩ := List.getElem?_eq_some_iff.1 h
  rw [List.take_succ_eq_append_getElem hj, List.foldl_append]
  rfl
theorem map_take {α β : Type} (f : α → β) {l : List α} {j : Nat} {x : α} (h : l[j]? = some x) : (l.take (j + 1)).map f = (l.take j).map f ++ [f x] := by
  obtain ⟨hj, rfl⟩ := List.getElem?_eq_some_iff.1 h
  rw [List.take_succ_eq_append_getElem hj, List.map_append]
  rfl
theorem clean_2000 (s : ByteArray) : (cleanS s).size ≤ 2000 := by
  cases hp : pathB s with
  | false => rw [cleanS_no hp]; exact Nat.zero_le _
  | true =>
    by_cases h0 : (parts s).length = 0
    · rw [cleanS_root hp h0]
      show 1 ≤ 2000
      omega
    · rw [cleanS_yes hp h0]
      have h1 := joinTo_size s (parts s) (clTo_sizes s _) (parts s).length
      have hsz : s.size ≤ 40 := (pathB_iff.1 hp).2.1
      have h2 : (parts s).length * (s.size + 1) ≤ 41 * 41 := Nat.mul_le_mul (by have : (parts s).length ≤ s.size + 1 := (clTo_bd s _).2; omega) (by omega)
      omega
theorem upL_len (p : ByteArray) (h : (cleanS p).size ≤ 2000) : (upL p).length ≤ 2001 := by
  unfold upL upC
  have := upTo_len (cleanS p) ((cleanS p).size - 1)
  rw [List.length_append]
  split
  · simp; omega
  · simp; omega
theorem up_size (c : ByteArray) (k : Nat) : ∀ x ∈ upTo c k, x.size ≤ c.size := by
  induction k with
  | zero => intro x hx; cases hx
  | succ k ih =>
    intro x hx
    rw [upTo] at hx
    rcases List.mem_append.1 hx with hx | hx
    · split at hx
      · rw [List.mem_singleton] at hx
        rw [hx, ByteArray.size_extract]
        omega
      · cases hx
    · exact ih x hx
theorem upL_size (p : ByteArray) : ∀ x ∈ upL p, x.size ≤ (cleanS p).size + 1 := by
  intro x hx
  unfold upL upC at hx
  rcases List.mem_append.1 hx with hx | hx
  · have := up_size _ _ x hx
    omega
  · split at hx
    · rw [List.mem_singleton] at hx
      rw [hx]
      show 1 ≤ _
      omega
    · cases hx
theorem baseC_len (f sp : ByteArray) : (baseC f sp).length ≤ 2001 := by
  unfold baseC
  split
  · simp
  · rw [List.length_map]; exact upL_len f (clean_2000 f)
theorem resolve_2000 (f sp : ByteArray) : (resolveS f sp).size ≤ 2000 := by
  unfold resolveS
  split
  · exact Nat.zero_le _
  · split
    · exact clean_2000 _
    · split
      · exact clean_2000 _
      · exact clean_2000 _
theorem baseC_size (f sp : ByteArray) : ∀ x ∈ baseC f sp, x.size ≤ 2000 := by
  unfold baseC
  split
  · intro x hx
    rw [List.mem_singleton] at hx
    rw [hx]
    exact resolve_2000 f sp
  · intro x hx
    obtain ⟨u, _, rfl⟩ := List.mem_map.1 hx
    exact clean_2000 _
theorem candF_succ {bs : List ByteArray} {k : Nat} {b : ByteArray} (h : bs[k]? = some b) : candF (bs.take (k + 1)) = candB (candF (bs.take k)) b := fold_take candB [] h
theorem candB_empty {out : List ByteArray} {b : ByteArray} (h : b.toList.isEmpty = true) : candB out b = out := by rw [candB, if_pos h]
theorem candB_some {out : List ByteArray} {b : ByteArray} (h : b.toList.isEmpty = false) : candB out b = (trio b).foldl addC out := by rw [candB, h]; rfl
theorem trio_at (b : ByteArray) {m : Nat} (h : m < 3) : ∃ x, (trio b)[m]? = some x ∧ x.size ≤ b.size + 9 := by
  match m, h with
  | 0, _ => exact ⟨b, rfl, by omega⟩
  | 1, _ => exact ⟨b ++ tJs, rfl, by rw [ByteArray.size_append]; show b.size + 3 ≤ _; omega⟩
  | 2, _ => exact ⟨b ++ tIndex, rfl, by rw [ByteArray.size_append]; exact Nat.le_refl _⟩
theorem trio_cell {w : World} {g : Nat} {e : TypeId} {b x : ByteArray} {m : Nat} (h : w.heap[g]? = some (.cells #[.string b, .string (b ++ tJs), .string (b ++ tIndex)] e (0, 0))) (hx : (trio b)[m]? = some x) : w.cell? ⟨g, m, none⟩ = some (.string x) := by
  match m, hx with
  | 0, hx => cases hx; simp [World.cell?, h]
  | 1, hx => cases hx; simp [World.cell?, h]
  | 2, hx => cases hx; simp [World.cell?, h]
end Go.Proofs.Ytdbpknmoacjodaa
namespace Go.Proofs.Ytdbpknmoacjodaa
open Go.RowKit Go.PlainAid Go.Sort

theorem keep_g {w W : World} {g k : Nat} {o : Obj} (h : w.heap[k]? = some o) (hg : w.grownBy W (some g)) (hne : g ≠ k) : W.heap[k]? = some o :=
  (hg.block k (Array.getElem?_eq_some_iff.1 h).1 (fun e => hne (Option.some.inj e).symm)).trans h
theorem keep_b {w W : World} {k : Nat} {o : Obj} (h : w.heap[k]? = some o) (hb : Below w.heap.size w W) : W.heap[k]? = some o := (hb.block k (Array.getElem?_eq_some_iff.1 h).1).trans h
abbrev noFile : Obj := .cells #[.string { data := #[] }, .string { data := #[] }] 52 (0, 0)
theorem results_tmp_cell_row {P : Program} {fn : Func} {p u : Tmp} {ty : TypeId} (h : fn.results = #[.tmp u, .cell p ty]) (tmps : Array Value) (w : World) (g : Nat) (t : TypeId) (cs : Array Value) (fr : Nat × Nat) (d : TypeDesc)
    (hp : tmps.getD p undef = .pointer (some ⟨g, 0, none⟩)) (hg : w.heap[g]? = some (.cells cs t fr))
    (hu : P.underlying ty = some d) (hd : (match d with | .struct _ | .array _ _ => true | _ => false) = true) (hi : (P.info? ty).map (·.size) = some cs.size) :
    (results fn tmps).run P w = .ok (.tuple #[tmps.getD u undef, .agg cs]) w := by
  have hp' : tmps[p]?.getD undef = .pointer (some ⟨g, 0, none⟩) := by simpa using hp
  simp [results, h, hp', asAddr, run_loadVar_row w g t ty cs fr d hg hu hd hi, Result.andThen]
theorem qcellF {w : World} {b i : Nat} {cs : Array Value} {u : Value} {t : TypeId} (h : w.heap[b]? = some (.cells cs t (0, 0))) : (w.setCell ⟨b, i, none⟩ u).heap[b]? = some (.cells (cs.setIfInBounds i u) t (0, 0)) := by
  simp only [World.setCell, Array.getElem?_modify]
  rw [if_pos trivial, h]
  rfl
theorem put2F {w : World} {b : Nat} {v0 v1 x0 x1 : Value} {t : TypeId} (h : w.heap[b]? = some (.cells #[v0, v1] t (0, 0))) : ((w.setCell ⟨b, 0, none⟩ x0).setCell ⟨b, 1, none⟩ x1).heap[b]? = some (.cells #[x0, x1] t (0, 0)) := by
  have e := qcellF (i := 1) (u := x1) (qcellF (i := 0) (u := x0) h)
  rw [e]
  simp
def PutOut (w : World) (e : Ending) (w' : World) : Prop :=
  ∃ g n cap fs p t, e = .returned (.tuple #[.slice (some ⟨g, 0, none⟩) n cap, .agg #[.string p, .string t]]) ∧ OwnFl w' w.heap.size 52 g n cap fs ∧ n ≤ 6 ∧ (∀ y ∈ fs, y.1.size ≤ 100 ∧ y.2.size ≤ 100) ∧ p.size ≤ 2000 ∧ t.size ≤ 100 ∧ Below w.heap.size w w'
set_option maxRecDepth 100000 in
set_option maxHeartbeats 400000 in
theorem drawPutFile_some (S : Src) (hS : S.ok) (w : World) (hc : CodeW S w) (hl : S.lim ≤ w.heap.size) (hcap : S.len ≤ S.cap) :
    Calls Try.prog 35 #[.slice S.a S.len S.cap] w (PutOut w) := by
  have hb0 : Below w.heap.size w (w.alloc (.cells #[.string { data := #[] }, .string { data := #[] }] 52)) := (Below.refl _ _).alloc (Nat.le_refl _) _
  have HS : Hid (CodeW S w ∧ S.lim ≤ w.heap.size) := ⟨hc, hl⟩
  have HB0 := hidI hb0
  have R0 : Hid ((w.alloc (.cells #[.string { data := #[] }, .string { data := #[] }] 52)).heap[w.heap.size]? = some noFile) := heap_alloc_new w _
  clear hc hl hb0
  go_enter Try.func35, Try.ntmps35
  go_wp2_with fail
  refine (l1New_any S hS _ (codeW_below HS.out.1 HB0.out HS.out.2) (by rw [alloc_size]; have := HS.out.2; omega)).mono ?_
  rintro e w1 ⟨rfl, hc1, hb1⟩
  rw [alloc_size] at hc1 ⊢
  have B1 := hidI (HB0.out.trans (hb1.mono HB0.out.size))
  have R1 := hidI (keep_b R0.out hb1)
  clear hb1 R0
  go_wp2_with fail
  refine (l2Some_some S hS _ _ _ hc1).mono ?_
  rintro e w2 ⟨p, q2, rfl, hp, hc2, hg2⟩
  have B2 := hidI (below_grown B1.out hg2 (by omega) B1.out.size)
  have R2 := hidI (keep_g R1.out hg2 (by omega))
  clear hg2 hc1 B1 R1
  go_wp2_with fail
  refine (l1Text_any S hS _ q2 4 _ hc2 (by omega) (by omega)).mono ?_
  rintro e w3 ⟨rfl, hc3, hg3⟩
  have B3 := hidI (below_grown B2.out hg3 (by omega) B2.out.size)
  have ht := tx_small S q2 4 (by omega) (by omega)
  obtain ⟨t, htt⟩ : ∃ t, strOfNums (tx S q2 4).1 = t := ⟨_, rfl⟩
  obtain ⟨q3, hq3⟩ : ∃ q, (tx S q2 4).2 = q := ⟨_, rfl⟩
  rw [htt] at ht ⊢
  rw [hq3] at hc3
  have R3 := hidI (keep_g R2.out hg3 (by omega))
  clear hg3 hc2 B2 htt hq3 R2
  have hsz3 := curW_lt hc3
  obtain ⟨m, hm⟩ : ∃ m : Nat, (S.len : Int) / 2 = (m : Int) := ⟨S.len / 2, by omega⟩
  have hml : m ≤ S.len := by omega
  have hwm : IntKind.i64.wrap (m : Int) = (m : Int) := IntWalk.i64_in _ (by have := hS.1; omega)
  have hmi : 0 ≤ (m : Int) ∧ (m : Int) ≤ (S.len : Int) := by omega
  obtain ⟨T, hT⟩ : ∃ T : Src, T = S.from m := ⟨_, rfl⟩
  have hT1 : (if S.cap = m then S.a else Option.map (fun x => x.add m) S.a) = T.a := by rw [hT]; rfl
  have hT2 : S.len - m = T.len := by rw [hT]; rfl
  have hT3 : S.cap - m = T.cap := by rw [hT]; rfl
  have HT : Hid (T.ok ∧ (∀ W, CodeW S W → CodeW T W) ∧ T.lim = S.lim) := by rw [hT]; exact ⟨from_ok hS m, fun W h => from_code h hcap, rfl⟩
  clear hT
  have C3 := hidI (cur_alloc hc3 (.cells #[.string p, .string t] 52))
  have B3' := hidI (B3.out.alloc B3.out.size (.cells #[.string p, .string t] 52))
  clear hc3 B3
  go_wp2_with fail
  refine (l1Once_any S hS _ q3 2 _ C3.out (by omega)).mono ?_
  rintro e w4 ⟨rfl, hc4, hg4⟩
  have B4 := hidI (below_grown B3'.out hg4 (by omega) B3'.out.size)
  have hx4 : Hid (w4.heap[w3.heap.size]? = some (.cells #[.string p, .string t] 52 (0, 0))) := (hg4.block _ (by rw [alloc_size]; omega) (fun e => by have := Option.some.inj e; omega)).trans (heap_alloc_new w3 _)
  have R4 : Hid (w4.heap[w.heap.size]? = some noFile) := keep_g ((heap_alloc_old _ _ (by omega)).trans R3.out) hg4 (by omega)
  clear hc4 hg4 C3 B3' R3
  generalize ((bw S q3 2).1 == 0) = b
  cases b with
  | false =>
    have c0 : w4.cell? ⟨w3.heap.size, 0, none⟩ = some (.string p) := by simp [World.cell?, hx4.out]
    have c1 : w4.cell? ⟨w3.heap.size, 1, none⟩ = some (.string t) := by simp [World.cell?, hx4.out]
    have K4 : Hid (CodeW T w4 ∧ T.lim ≤ w4.heap.size) := ⟨HT.out.2.1 _ (codeW_below HS.out.1 B4.out HS.out.2), by rw [HT.out.2.2]; exact Nat.le_trans HS.out.2 B4.out.size⟩
    go_wp2_with fail
    go_region_law (first | ((try go_simp); go_wp2_with (go_at_call 74; refine (drawFilesOk_some T HT.out.1 _ (by exact K4.out.1) (by exact K4.out.2)).mono ?_; rintro e w5 ⟨g, n, cap, fs, rfl, own5, hn5, few5, hb5⟩; have B5 := hidI (B4.out.drew.trans (hb5.mono B4.out.drew.size)); have O5 := hidI own5; have W5 := hidI few5; have hx5 : w5.heap[w3.heap.size]? = some (.cells #[.string p, .string t] 52 (0, 0)) := keep_b (w := w4.drew) hx4.out hb5; have d0 : w5.cell? ⟨w3.heap.size, 0, none⟩ = some (.string p) := (by simp [World.cell?, hx5]); have d1 : w5.cell? ⟨w3.heap.size, 1, none⟩ = some (.string t) := (by simp [World.cell?, hx5]); have hr5 : w5.heap[w.heap.size]? = some noFile := keep_b (w := w4.drew) R4.out hb5; have R5 := hidI hr5; have r0 : w5.cell? ⟨w.heap.size, 0, none⟩ = some (.string { data := #[] }) := (by simp [World.cell?, hr5]); have r1 : w5.cell? ⟨w.heap.size, 1, none⟩ = some (.string { data := #[] }) := (by simp [World.cell?, hr5]); have f0 : w5.frozen? ⟨w.heap.size, 0, none⟩ = false := (by simp [World.frozen?, hr5]); have f1 : w5.frozen? ⟨w.heap.size, 1, none⟩ = false := (by simp [World.frozen?, hr5]); clear own5 few5 hb5 hx5 hr5)))
    all_goals
      clear c0 c1 d0 d1 r0 r1 f0 f1
      go_wp2
      refine bodyPost_ret (results_tmp_cell_row rfl _ _ w.heap.size 52 _ (0, 0) _ rfl (put2F R5.out) Try.underlying52 rfl (by kernel_rfl)) rfl ?_
      have hg5 := ownFl_blk O5.out
      have hs5 : w.heap.size < w4.drew.heap.size := (Array.getElem?_eq_some_iff.1 R4.out).1
      have ne5 : g ≠ w.heap.size := by omega
      exact ⟨g, n, cap, fs, _, t, rfl, ownFl_low (ownFl_keep O5.out ((Below.heap_setCell _ _ _ _ ne5).trans (Below.heap_setCell _ _ _ _ ne5))) (by omega), hn5, W5.out, by omega, ht, (B5.out.setCell (Nat.le_refl _) _).setCell (Nat.le_refl _) _⟩
  | true =>
    have a0 : w4.cell? ⟨w3.heap.size, 0, none⟩ = some (.string p) := by simp [World.cell?, hx4.out]
    have z4 := hx4.out
    have lt4 := (Array.getElem?_eq_some_iff.1 z4).1
    clear z4
    go_wp2_with fail
    refine (clean_spec p _ (by omega)).mono ?_
    rintro e w6 ⟨rfl, hb6⟩
    have hx6 := keep_b hx4.out hb6
    have y0 : w6.cell? ⟨w3.heap.size, 0, none⟩ = some (.string p) := by simp [World.cell?, hx6]
    have yf : w6.frozen? ⟨w3.heap.size, 0, none⟩ = false := by simp [World.frozen?, hx6]
    obtain ⟨cp, hcp⟩ : ∃ c, cleanS p = c := ⟨_, rfl⟩
    have hcs : cp.size ≤ 2000 := by rw [← hcp]; exact clean_2000 p
    rw [hcp]
    obtain ⟨w7, hw7⟩ : ∃ w7, w7 = w6.setCell ⟨w3.heap.size, 0, none⟩ (.string cp) := ⟨_, rfl⟩
    have hx7 : Hid (w7.heap[w3.heap.size]? = some (.cells #[.string cp, .string t] 52 (0, 0))) := by rw [hw7]; exact (qcellF hx6).trans rfl
    have R7 : Hid (w7.heap[w.heap.size]? = some noFile) := by rw [hw7]; exact (Below.heap_setCell _ _ _ _ (by show w.heap.size ≠ w3.heap.size; omega)).trans (keep_b R4.out hb6)
    have B7 : Hid (Below w.heap.size w w7) := by rw [hw7]; exact (B4.out.trans (hb6.mono B4.out.size)).setCell (by show w.heap.size ≤ w3.heap.size; omega) _
    have H7 := hidI hw7
    clear hb6 hx6 hcp hw7 lt4 a0
    go_wp2_with fail
    rw [← H7.out]
    clear y0 yf
    have c0 : w7.cell? ⟨w3.heap.size, 0, none⟩ = some (.string cp) := by simp [World.cell?, hx7.out]
    have c1 : w7.cell? ⟨w3.heap.size, 1, none⟩ = some (.string t) := by simp [World.cell?, hx7.out]
    have K4 : Hid (CodeW T w7 ∧ T.lim ≤ w7.heap.size) := ⟨HT.out.2.1 _ (codeW_below HS.out.1 B7.out HS.out.2), by rw [HT.out.2.2]; exact Nat.le_trans HS.out.2 B7.out.size⟩
    go_wp2_with fail
    go_region_law (first | ((try go_simp); go_wp2_with (go_at_call 74; refine (drawFilesOk_some T HT.out.1 _ (by exact K4.out.1) (by exact K4.out.2)).mono ?_; rintro e w5 ⟨g, n, cap, fs, rfl, own5, hn5, few5, hb5⟩; have B5 := hidI (B7.out.drew.trans (hb5.mono B7.out.drew.size)); have O5 := hidI own5; have W5 := hidI few5; have hx5 : w5.heap[w3.heap.size]? = some (.cells #[.string cp, .string t] 52 (0, 0)) := keep_b (w := w7.drew) hx7.out hb5; have d0 : w5.cell? ⟨w3.heap.size, 0, none⟩ = some (.string cp) := (by simp [World.cell?, hx5]); have d1 : w5.cell? ⟨w3.heap.size, 1, none⟩ = some (.string t) := (by simp [World.cell?, hx5]); have hr5 : w5.heap[w.heap.size]? = some noFile := keep_b (w := w7.drew) R7.out hb5; have R5 := hidI hr5; have r0 : w5.cell? ⟨w.heap.size, 0, none⟩ = some (.string { data := #[] }) := (by simp [World.cell?, hr5]); have r1 : w5.cell? ⟨w.heap.size, 1, none⟩ = some (.string { data := #[] }) := (by simp [World.cell?, hr5]); have f0 : w5.frozen? ⟨w.heap.size, 0, none⟩ = false := (by simp [World.frozen?, hr5]); have f1 : w5.frozen? ⟨w.heap.size, 1, none⟩ = false := (by simp [World.frozen?, hr5]); clear own5 few5 hb5 hx5 hr5)))
    all_goals
      clear c0 c1 d0 d1 r0 r1 f0 f1
      go_wp2
      refine bodyPost_ret (results_tmp_cell_row rfl _ _ w.heap.size 52 _ (0, 0) _ rfl (put2F R5.out) Try.underlying52 rfl (by kernel_rfl)) rfl ?_
      have hg5 := ownFl_blk O5.out
      have hs5 : w.heap.size < w7.drew.heap.size := (Array.getElem?_eq_some_iff.1 R7.out).1
      have ne5 : g ≠ w.heap.size := by omega
      exact ⟨g, n, cap, fs, _, t, rfl, ownFl_low (ownFl_keep O5.out ((Below.heap_setCell _ _ _ _ ne5).trans (Below.heap_setCell _ _ _ _ ne5))) (by omega), hn5, W5.out, by omega, ht, (B5.out.setCell (Nat.le_refl _) _).setCell (Nat.le_refl _) _⟩
end Go.Proofs.Ytdbpknmoacjodaa
namespace Go.Proofs.Ytdbpknmoacjodaa
open Go.RowKit Go.PlainAid Go.Sort

set_option maxRecDepth 100000 in
set_option maxHeartbeats 1600000 in
theorem sameFiles_with (hne : ∀ (p t : ByteArray) (W : World), Sem.run Try.prog (binOp .neq 52 (.agg #[.string p, .string t]) (.agg #[.string p, .string t])) W = .ok (.bool false) W)
    (hgd : ∀ (op : BinOp) (a b : Operand) (p t : ByteArray) (W : World), Sem.run Try.prog (eqGuard op 52 a b (.agg #[.string p, .string t]) (.agg #[.string p, .string t])) W = .ok () W)
    (a1 a2 : Option Addr) (g1 g2 len c1 c2 : Nat) (Pt Tx : Nat → ByteArray) (w : World) (hf : FilesAt w a1 g1 0 len Pt Tx) (hg : FilesAt w a2 g2 0 len Pt Tx) (hl : len ≤ 1048576) :
    Calls Try.prog 32 #[.slice a1 len c1, .slice a2 len c2] w fun e w' => e = .returned (.bool true) ∧ Below w.heap.size w w' := by
  have HF := hidU hf
  have HG := hidU hg
  clear hf hg
  go_enter Try.func32, Try.ntmps32
  go_wp2
  go_loopw [5] (fun i wr => ∃ k : Nat, k ≤ len ∧ i = .int .i64 k ∧ Below w.heap.size w wr) (fun i _ => (len - intOf i).toNat)
  case atStart => exact ⟨0, by omega, rfl, Below.refl _ _⟩
  case round =>
    obtain ⟨k, hk, rfl, hb⟩ := hrel
    by_cases hlt : k < len
    · have hf' := HF.out.later hb
      have hg' := HG.out.later hb
      obtain rfl := hf'.addr (by omega)
      obtain rfl := hg'.addr (by omega)
      have c0 := hf'.path k hlt
      have c1' := hf'.text k hlt
      have d0 := hg'.path k hlt
      have d1 := hg'.text k hlt
      rw [Nat.zero_add] at c0 c1' d0 d1
      have HB := hidU hb
      clear hf' hg' hb
      go_wp2
      go_region
      all_goals
        go_wp2
        go_roundw
        case rel => exact ⟨k + 1, by omega, by go_num, HB.out.drew⟩
        case measure => simp [intOf]; omega
    · go_wp2
      go_ret
      exact ⟨rfl, hb⟩
end Go.Proofs.Ytdbpknmoacjodaa
