/-
  What ContainsFunc over Exps answers, and a row of Exps whose elements are written: the walks.
  What exportNames of impl's parser answers: the walks. (It writes into the row that it is handed: so what is told is told from a world on in which that row was not yet there.)
  What exportItem of impl's parser answers: the walks.
-/
import Derived.Laws.OwnMore
import Derived.Test.YticdggnnpjachaaGreatCaImplParseSToImplParseU
namespace Go.Proofs.YticdggnnpjachaaGreat
open Go.RowKit Go.PlainAid Go.Sort

theorem flat_set {α : Type} (f : α → List Value) (m : Nat) (hf : ∀ x, (f x).length = m) : ∀ (l : List α) (j i : Nat) (x y : α) (v : Value), l[j]? = some x → i < m → f y = (f x).set i v → (l.flatMap f).set (j * m + i) v = (l.set j y).flatMap f := by
  intro l
  induction l with
  | nil => intro j i x y v h; simp at h
  | cons z l ih =>
    intro j i x y v h hi hy
    match j with
    | 0 =>
      simp only [List.getElem?_cons_zero, Option.some.injEq] at h
      subst h
      rw [List.flatMap_cons, Nat.zero_mul, Nat.zero_add, List.set_append_left _ _ (by rw [hf]; exact hi), List.set_cons_zero, List.flatMap_cons, hy]
    | j + 1 =>
      simp only [List.getElem?_cons_succ] at h
      rw [List.flatMap_cons, List.set_append_right _ _ (by rw [hf, Nat.succ_mul]; omega), hf, List.set_cons_succ, List.flatMap_cons, ← ih j i x y v h hi hy]
      congr 2
      rw [Nat.succ_mul]
      omega
def mxE (s : ByteArray) (l : List Ep) (j : Nat) : List Ep := (l.take j).map (expFrom s) ++ (l.drop j).map expLoc
theorem mxE_len (s : ByteArray) (l : List Ep) (j : Nat) : (mxE s l j).length = l.length := by simp [mxE]; omega
theorem mxE_at {s : ByteArray} {l : List Ep} {j : Nat} {x : Ep} (h : l[j]? = some x) : (mxE s l j)[j]? = some (expLoc x) := by
  obtain ⟨hj, rfl⟩ := List.getElem?_eq_some_iff.1 h
  have h1 : ((l.take j).map (expFrom s)).length = j := by simp; omega
  rw [mxE, List.getElem?_append_right (by omega), h1, Nat.sub_self, List.drop_eq_getElem_cons hj]
  rfl
theorem mxE_step {s : ByteArray} {l : List Ep} {j : Nat} {x : Ep} (h : l[j]? = some x) : (mxE s l j).set j (expFrom s x) = mxE s l (j + 1) := by
  obtain ⟨hj, rfl⟩ := List.getElem?_eq_some_iff.1 h
  have h1 : ((l.take j).map (expFrom s)).length = j := by simp; omega
  rw [mxE, List.set_append_right _ _ (by omega), h1, Nat.sub_self, List.drop_eq_getElem_cons hj, List.map_cons, List.set_cons_zero, mxE, List.take_succ_eq_append_getElem hj, List.map_append, List.append_assoc]
  rfl
theorem mxE_none (s : ByteArray) (l : List Ep) : mxE s l 0 = l.map expLoc := by simp [mxE]
theorem mxE_all (s : ByteArray) (l : List Ep) : mxE s l l.length = l.map (expFrom s) := by simp [mxE]
set_option maxRecDepth 100000 in
theorem isDefault_any (x : Ep) (w : World) :
    Calls Tryz.prog 198 #[epV x] w fun e w' => e = .returned (.bool (x.loc.toList == [100, 101, 102, 97, 117, 108, 116])) ∧ Below w.heap.size w w' := by
  unfold epV
  cases hx : (x.loc.toList == [100, 101, 102, 97, 117, 108, 116]) with
  | true =>
    go_enter Tryz.func198, Tryz.ntmps198
    go_wp2
    go_ret
    exact ⟨rfl, (Below.refl _ _).alloc (Nat.le_refl _) _⟩
  | false =>
    go_enter Tryz.func198, Tryz.ntmps198
    go_wp2
    go_ret
    exact ⟨rfl, (Below.refl _ _).alloc (Nat.le_refl _) _⟩
theorem anyB_drop {l : List Ep} {j : Nat} {x : Ep} (h : l[j]? = some x) : anyB (l.drop j) = ((x.loc.toList == [100, 101, 102, 97, 117, 108, 116]) || anyB (l.drop (j + 1))) := by
  obtain ⟨hj, rfl⟩ := List.getElem?_eq_some_iff.1 h
  rw [List.drop_eq_getElem_cons hj]
  simp only [anyB, List.any_cons]
set_option maxRecDepth 100000 in
set_option maxHeartbeats 1600000 in
theorem indexFunc_any (base g : Nat) (r : Rw) (l : List Ep) (w : World) (h : OwnR w base 102 4 r l.length (l.flatMap fun e => epL (expLoc e))) (hl : l.length ≤ 4000) (hg : r.a = some ⟨g, 0, none⟩) :
    Calls Tryz.prog 205 #[.slice (some ⟨g, 0, none⟩) l.length r.cap, .func (.func 198) #[] #[]] w fun e w' => (∃ v : Int, e = .returned (.int .i64 v) ∧ decide (0 ≤ v) = anyB l) ∧ Below w.heap.size w w' := by
  have HO := hidI h
  have HGG := hidI hg
  clear h hg
  go_enter Tryz.func205, Tryz.ntmps205
  go_wp2
  go_loopg [8] (l.length + 1) (fun k i wr => ∃ j : Nat, i = .int .i64 j ∧ j + k = l.length + 1 ∧ anyB (l.drop j) = anyB l ∧ Below w.heap.size w wr)
  case atStart => exact ⟨0, rfl, by omega, by simp, Below.refl _ _⟩
  case round =>
    obtain ⟨j, rfl, hj, he, hb⟩ := hrel
    have HE := hidI he
    have HB := hidI hb
    clear he hb
    by_cases hlt : j < l.length
    · have hlti : (j : Int) < (l.length : Int) := by omega
      obtain ⟨x, hx⟩ := getsome hlt
      have HOr := hidI (HO.out.keep fun k g => HB.out.block k (HO.out.typed g).2.1)
      obtain ⟨g', hg', hcl⟩ := OwnR.elem (f := fun e => epL (expLoc e)) (m := 4) (fun _ => rfl) HOr.out hx
      have eg : g' = g := by have := hg'.symm.trans HGG.out; simpa using this
      subst eg
      have k0 := hcl 0 (by omega)
      have k1 := hcl 1 (by omega)
      have k2 := hcl 2 (by omega)
      have k3 := hcl 3 (by omega)
      simp only [epL, expLoc, Nat.add_zero, List.getElem?_cons_zero, List.getElem?_cons_succ] at k0 k1 k2 k3
      have HS := hidI (anyB_drop hx)
      clear hcl hg' hx
      obtain ⟨j1, hj1⟩ : ∃ j1, j1 = j + 1 := ⟨_, rfl⟩
      have ej : (j : Int) + 1 = (j1 : Int) := by omega
      have HJ := hidI hj1
      clear hj1
      go_wp2_with fail
      refine (isDefault_any (expLoc x) _).mono ?_
      rintro e w1 ⟨rfl, hb1⟩
      have HB1 : Hid (Below w.heap.size w w1) := HB.out.trans (hb1.mono HB.out.size)
      clear hb1
      rw [show (expLoc x).loc = x.loc from rfl]
      cases ex : (x.loc.toList == [100, 101, 102, 97, 117, 108, 116]) with
      | true =>
        go_wp2
        go_ret
        refine ⟨⟨_, rfl, ?_⟩, HB1.out⟩
        rw [← HE.out, HS.out, ex]
        simp
      | false =>
        go_wp2
        go_roundg (gk - 1)
        case rel =>
          refine ⟨j1, rfl, by have := HJ.out; omega, ?_, HB1.out⟩
          rw [← HE.out, HS.out, ex, HJ.out]
          simp
        case measure => omega
    · have hlti : ¬ (j : Int) < (l.length : Int) := by omega
      go_wp2
      go_ret
      refine ⟨⟨_, rfl, ?_⟩, HB.out⟩
      rw [← HE.out, List.drop_eq_nil_of_le (by omega)]
      rfl
set_option maxRecDepth 100000 in
theorem containsFunc_any (base g : Nat) (r : Rw) (l : List Ep) (w : World) (h : OwnR w base 102 4 r l.length (l.flatMap fun e => epL (expLoc e))) (hl : l.length ≤ 4000) (hg : r.a = some ⟨g, 0, none⟩) :
    Calls Tryz.prog 199 #[.slice (some ⟨g, 0, none⟩) l.length r.cap, .func (.func 198) #[] #[]] w fun e w' => e = .returned (.bool (anyB l)) ∧ Below w.heap.size w w' := by
  have HO := hidI h
  have HGG := hidI hg
  clear h hg
  go_enter Tryz.func199, Tryz.ntmps199
  go_wp2_with fail
  refine (indexFunc_any base g r l _ HO.out hl HGG.out).mono ?_
  rintro e w1 ⟨⟨v, rfl, hv⟩, hb⟩
  have HV := hidI hv
  have HB := hidI hb
  clear hv hb
  go_wp2
  go_ret
  exact ⟨ret_bool HV.out, HB.out⟩
end Go.Proofs.YticdggnnpjachaaGreat
namespace Go.Proofs.YticdggnnpjachaaGreat
open Go.RowKit Go.PlainAid Go.Sort

def expNamesI (C : Cx) (l : List Ep) (q : PS) : PR :=
  if isT C q.pos 1 sFrom || anyB l then bd (tokP C 1 sFrom q) fun a => bd (specP C a) fun b => bd (tokP C 4 cSemi b.1) fun c => addAll (fun e => addEp C (expFrom b.2 e)) l (.ok c)
  else bd (tokP C 4 cSemi q) fun c => addAll (fun e => addEp C (expLoc e)) l (.ok c)
theorem flat_map (X : Ep → Ep) (l : List Ep) : (l.map X).flatMap epL = l.flatMap fun e => epL (X e) := by rw [List.flatMap_map]

set_option maxRecDepth 100000 in
set_option maxHeartbeats 3200000 in
theorem exportNames_3 (C : Cx) (gt cap base gp b0 g : Nat) (r : Rw) (S Sc : Sv) (q0 q : PS) (l : List Ep) (w wc : World) (hh : IM C gt cap base gp S q0 w) (h : IM C gt cap base gp Sc q wc) (h0 : IS gp S w Sc wc) (hl : l.length ≤ 4000) (hf : Fr 102 4 wc b0 r l.length (l.flatMap (fun e => epL (expLoc e))) Sc) (hg : r.a = some ⟨g, 0, none⟩) (hi : isT C q.pos 1 sFrom = false) (ha : anyB l = false) :
    Calls Tryz.prog 176 #[.pointer (some ⟨gp, 0, none⟩), .slice (some ⟨g, 0, none⟩) l.length r.cap] wc (IOut C gt cap base gp (expNamesI C l q) id (fun _ => .tuple #[]) S w) := by
  have HH := hidI hh
  have HC := hidI h
  have H0 := hidI h0
  have HF := hidI hf
  have HG := hidI hg
  have HY : Hid (expNamesI C l q = bd (tokP C 4 cSemi q) fun c => addAll (fun e => addEp C (expLoc e)) l (.ok c)) := by show _ = _; rw [expNamesI, hi, ha]; rfl
  clear hh h h0 hf hg
  go_enter Tryz.func176, Tryz.ntmps176
  go_wp2_with fail
  refine (comes_any C gt cap base gp Sc q 1 sFrom _ HC.out).mono ?_
  rintro e w1 ⟨rfl, hb⟩
  rw [hi]
  have HM1 : Hid (IM C gt cap base gp Sc q w1) := HC.out.later hb
  have HS1 : Hid (IS gp S w Sc w1) := (H0.out.trans (IS.below hb))
  have hs1 : IS gp Sc wc Sc w1 := IS.below hb
  clear hb
  have HF1 : Hid (Fr 102 4 w1 b0 r l.length (l.flatMap (fun e => epL (expLoc e))) Sc) := HF.out.step HC.out (by decide) hs1
  clear hs1
  go_wp2_with fail
  refine (containsFunc_any b0 g r l _ HF1.out.1 hl HG.out).mono ?_
  rintro e w2 ⟨rfl, hb⟩
  rw [ha]
  have HF2 : Hid (Fr 102 4 w2 b0 r l.length (l.flatMap (fun e => epL (expLoc e))) Sc) := HF1.out.later hb
  have HM2 : Hid (IM C gt cap base gp Sc q w2) := HM1.out.later hb
  have HS2 : Hid (IS gp S w Sc w2) := (HS1.out.trans (IS.below hb))
  clear hb
  go_wp2_with fail
  refine (passSign C gt cap base gp Sc q 59 _ HM2.out).mono ?_
  cases hn3 : tokP C 4 cSemi q with
  | error p =>
    rintro e w3 ⟨rfl, hb⟩
    have HB : Hid (Below base w w3) := (HH.out.back HS2.out).trans hb
    have HX : Hid (expNamesI C l q = .error p) := bdE HY.out hn3
    unfold Pan
    go_wp2
    refine ⟨rfl, ?_⟩
    rw [HX.out]
    exact ⟨rfl, HB.out⟩
  | ok a3 =>
    rintro e w3 ⟨rfl, S3, m, s⟩
    have HF3 : Hid (Fr 102 4 w3 b0 r l.length (l.flatMap (fun e => epL (expLoc e))) S3) := HF2.out.step HM2.out (by decide) s
    have HM3 := hidI m
    have HS3 : Hid (IS gp S w S3 w3) := HS2.out.trans s
    clear m s
    have HY3 := hidI (bdO HY.out hn3)
    have hpos : 0 < a3.pos := by rw [(tokP_ok hn3).1]; exact Nat.succ_pos _
    go_wp2
    go_loopg [39] l.length (fun k i wr => ∃ (j : Nat) (S' : Sv) (q' : PS), i = .int .i64 j ∧ j + k = l.length ∧ expNamesI C l q = addAll (fun e => addEp C (expLoc e)) (l.drop j) (.ok q') ∧ 0 < q'.pos ∧ IM C gt cap base gp S' q' wr ∧ IS gp S w S' wr ∧ Fr 102 4 wr b0 r l.length (l.flatMap fun e => epL (expLoc e)) S')
    case atStart => exact ⟨0, S3, a3, rfl, by omega, HY3.out, hpos, HM3.out, HS3.out, HF3.out⟩
    case round =>
      obtain ⟨j, S', q', rfl, hj, hy, hp', m', s', f'⟩ := hrel
      have HYr := hidI hy
      have HMr : Hid (IM C gt cap base gp S' q' wr) := m'
      have HSr : Hid (IS gp S w S' wr) := s'
      have HFr : Hid (Fr 102 4 wr b0 r l.length (l.flatMap fun e => epL (expLoc e)) S') := f'
      clear hy m' s' f'
      by_cases hlt : j < l.length
      · have hlti : (j : Int) < (l.length : Int) := by omega
        obtain ⟨x, hx⟩ := getsome hlt
        obtain ⟨g', hg', hcl⟩ := OwnR.elem (f := fun e => epL (expLoc e)) (m := 4) (fun _ => rfl) HFr.out.1 hx
        have eg : g' = g := by have := hg'.symm.trans HG.out; simpa using this
        subst eg
        have k0 := hcl 0 (by omega)
        have k1 := hcl 1 (by omega)
        have k2 := hcl 2 (by omega)
        have k3 := hcl 3 (by omega)
        simp only [epL, expLoc, Nat.add_zero, List.getElem?_cons_zero, List.getElem?_cons_succ] at k0 k1 k2 k3
        have HZ := hidI (HYr.out.trans (addAll_dropI (fun e => addEp C (expLoc e)) hx q'))
        clear hcl hg' hx
        obtain ⟨j1, hj1⟩ : ∃ j1, j1 = j + 1 := ⟨_, rfl⟩
        have ej : (j : Int) + 1 = (j1 : Int) := by omega
        rw [← hj1] at HZ
        have hgp := HMr.out.lt
        have HJ := hidI hj1
        clear hj1
        go_wp2_with fail
        refine (addExp_any C gt cap base gp S' q' (expLoc x) _ (HMr.out.alloc _) hp').mono ?_
        cases hn : addEp C (expLoc x) q' with
        | error p =>
          rintro e wy ⟨rfl, hb⟩
          have HB : Hid (Below base w wy) := (HH.out.back (HSr.out.alloc _)).trans hb
          have HX : Hid (expNamesI C l q = .error p) := by show _ = _; rw [HZ.out, hn]; exact addAll_errorI _ _ _
          unfold Pan
          go_wp2
          refine ⟨rfl, ?_⟩
          rw [HX.out]
          exact ⟨rfl, HB.out⟩
        | ok ay =>
          rintro e wy ⟨rfl, Sy, m, s⟩
          have HMy := hidI m
          have HSy : Hid (IS gp S w Sy wy) := (HSr.out.alloc _).trans s
          have HFy : Hid (Fr 102 4 wy b0 r l.length (l.flatMap fun e => epL (expLoc e)) Sy) := (HFr.out.later ((Below.refl _ _).alloc (Nat.le_refl _) _)).step (HMr.out.alloc _) (by decide) s
          have HYy : Hid (expNamesI C l q = addAll (fun e => addEp C (expLoc e)) (l.drop j1) (.ok ay)) := by show _ = _; rw [HZ.out, hn]
          have HPy : Hid (0 < ay.pos) := by show 0 < ay.pos; rw [addEp_posI hn]; exact hp'
          clear m s
          go_wp2
          go_roundg (gk - 1)
          case rel => exact ⟨j1, Sy, ay, rfl, by have := HJ.out; omega, HYy.out, HPy.out, HMy.out, HSy.out, HFy.out⟩
          case measure => omega
      · have hlti : ¬ (j : Int) < (l.length : Int) := by omega
        have HZ : Hid (expNamesI C l q = .ok q') := by show _ = _; rw [HYr.out, List.drop_eq_nil_of_le (by omega)]; rfl
        go_wp2
        go_end0
        rw [HZ.out]
        exact ⟨rfl, S', HMr.out, HSr.out⟩

set_option maxRecDepth 100000 in
set_option maxHeartbeats 3200000 in
theorem exportNames_2 (C : Cx) (gt cap base gp b0 g : Nat) (r : Rw) (S Sc : Sv) (q0 q : PS) (l : List Ep) (w wc : World) (hh : IM C gt cap base gp S q0 w) (h : IM C gt cap base gp Sc q wc) (h0 : IS gp S w Sc wc) (hl : l.length ≤ 4000) (hf : Fr 102 4 wc b0 r l.length (l.flatMap (fun e => epL (expLoc e))) Sc) (hg : r.a = some ⟨g, 0, none⟩) (hi : isT C q.pos 1 sFrom = false) (ha : anyB l = true) :
    Calls Tryz.prog 176 #[.pointer (some ⟨gp, 0, none⟩), .slice (some ⟨g, 0, none⟩) l.length r.cap] wc (IOut C gt cap base gp (expNamesI C l q) id (fun _ => .tuple #[]) S w) := by
  have HH := hidI hh
  have HC := hidI h
  have H0 := hidI h0
  have HF := hidI hf
  have HG := hidI hg
  have HY : Hid (expNamesI C l q = .error (here C q.pos)) := by show _ = _; rw [expNamesI, hi, ha, if_pos (by decide), tok_fail hi]; rfl
  clear hh h h0 hf hg
  go_enter Tryz.func176, Tryz.ntmps176
  go_wp2_with fail
  refine (comes_any C gt cap base gp Sc q 1 sFrom _ HC.out).mono ?_
  rintro e w1 ⟨rfl, hb⟩
  rw [hi]
  have HM1 : Hid (IM C gt cap base gp Sc q w1) := HC.out.later hb
  have HS1 : Hid (IS gp S w Sc w1) := (H0.out.trans (IS.below hb))
  have hs1 : IS gp Sc wc Sc w1 := IS.below hb
  clear hb
  have HF1 : Hid (Fr 102 4 w1 b0 r l.length (l.flatMap (fun e => epL (expLoc e))) Sc) := HF.out.step HC.out (by decide) hs1
  clear hs1
  go_wp2_with fail
  refine (containsFunc_any b0 g r l _ HF1.out.1 hl HG.out).mono ?_
  rintro e w2 ⟨rfl, hb⟩
  rw [ha]
  have HF2 : Hid (Fr 102 4 w2 b0 r l.length (l.flatMap (fun e => epL (expLoc e))) Sc) := HF1.out.later hb
  have HM2 : Hid (IM C gt cap base gp Sc q w2) := HM1.out.later hb
  have HS2 : Hid (IS gp S w Sc w2) := (HS1.out.trans (IS.below hb))
  clear hb
  go_wp2_with fail
  refine (passName_any C gt cap base gp Sc q sFrom _ HM2.out).mono ?_
  rw [tok_fail hi]
  rintro e w3 ⟨rfl, hb⟩
  have HB : Hid (Below base w w3) := (HH.out.back HS2.out).trans hb
  have HX : Hid (expNamesI C l q = .error (here C q.pos)) := HY.out
  unfold Pan
  go_wp2
  refine ⟨rfl, ?_⟩
  rw [HX.out]
  exact ⟨rfl, HB.out⟩

set_option maxRecDepth 100000 in
set_option maxHeartbeats 3200000 in
theorem exportNames_1 (C : Cx) (gt cap base gp b0 g : Nat) (r : Rw) (S Sc : Sv) (q0 q : PS) (l : List Ep) (w wc : World) (hh : IM C gt cap base gp S q0 w) (h : IM C gt cap base gp Sc q wc) (h0 : IS gp S w Sc wc) (hC : Sized C) (hl : l.length ≤ 4000) (hf : Fr 102 4 wc b0 r l.length (l.flatMap (fun e => epL (expLoc e))) Sc) (hg : r.a = some ⟨g, 0, none⟩) (hg0 : w.heap.size ≤ g) (hi : isT C q.pos 1 sFrom = true) :
    Calls Tryz.prog 176 #[.pointer (some ⟨gp, 0, none⟩), .slice (some ⟨g, 0, none⟩) l.length r.cap] wc (IOut C gt cap base gp (expNamesI C l q) id (fun _ => .tuple #[]) S w) := by
  have HH := hidI hh
  have HC := hidI h
  have H0 := hidI h0
  have HF := hidI hf
  have HG := hidI hg
  have HG0 := hidI hg0
  have HY : Hid (expNamesI C l q = bd (tokP C 1 sFrom q) fun a => bd (specP C a) fun b => bd (tokP C 4 cSemi b.1) fun c => addAll (fun e => addEp C (expFrom b.2 e)) l (.ok c)) := by show _ = _; rw [expNamesI, hi]; rfl
  clear hh h h0 hf hg hg0
  go_enter Tryz.func176, Tryz.ntmps176
  go_wp2_with fail
  refine (comes_any C gt cap base gp Sc q 1 sFrom _ HC.out).mono ?_
  rintro e w1 ⟨rfl, hb⟩
  rw [hi]
  have HM1 : Hid (IM C gt cap base gp Sc q w1) := HC.out.later hb
  have HS1 : Hid (IS gp S w Sc w1) := (H0.out.trans (IS.below hb))
  have hs1 : IS gp Sc wc Sc w1 := IS.below hb
  clear hb
  have HF1 : Hid (Fr 102 4 w1 b0 r l.length (l.flatMap (fun e => epL (expLoc e))) Sc) := HF.out.step HC.out (by decide) hs1
  clear hs1
  go_wp2_with fail
  refine (passName_any C gt cap base gp Sc q sFrom _ HM1.out).mono ?_
  cases hn2 : tokP C 1 sFrom q with
  | error p =>
    rintro e w2 ⟨rfl, hb⟩
    have HB : Hid (Below base w w2) := (HH.out.back HS1.out).trans hb
    have HX : Hid (expNamesI C l q = .error p) := bdE HY.out hn2
    unfold Pan
    go_wp2
    refine ⟨rfl, ?_⟩
    rw [HX.out]
    exact ⟨rfl, HB.out⟩
  | ok a2 =>
    rintro e w2 ⟨rfl, S2, m, s⟩
    have HF2 : Hid (Fr 102 4 w2 b0 r l.length (l.flatMap (fun e => epL (expLoc e))) S2) := HF1.out.step HM1.out (by decide) s
    have HM2 := hidI m
    have HS2 : Hid (IS gp S w S2 w2) := HS1.out.trans s
    clear m s
    have HY2 := hidI (bdO HY.out hn2)
    go_wp2_with fail
    refine (request_any C gt cap base gp S2 a2 _ HM2.out hC).mono ?_
    cases hn3 : specP C a2 with
    | error p =>
      rintro e w3 ⟨rfl, hb⟩
      have HB : Hid (Below base w w3) := (HH.out.back HS2.out).trans hb
      have HX : Hid (expNamesI C l q = .error p) := bdE HY2.out hn3
      unfold Pan
      go_wp2
      refine ⟨rfl, ?_⟩
      rw [HX.out]
      exact ⟨rfl, HB.out⟩
    | ok a3 =>
      rintro e w3 ⟨rfl, S3, m, s⟩
      have HF3 : Hid (Fr 102 4 w3 b0 r l.length (l.flatMap (fun e => epL (expLoc e))) S3) := HF2.out.step HM2.out (by decide) s
      have HM3 := hidI m
      have HS3 : Hid (IS gp S w S3 w3) := HS2.out.trans s
      clear m s
      have HY3 := hidI (bdO HY2.out hn3)
      have HF4 : Hid (Fr 102 4 w3 b0 r l.length ((mxE a3.2 l 0).flatMap epL) S3) := by show Fr _ _ _ _ _ _ _ _; rw [mxE_none, flat_map]; exact HF3.out
      have hgp : g ≠ gp := HF3.out.ngp HM3.out (by decide) (by rw [Rw.blk, HG.out]; rfl)
      have hgt : g ≠ gt := HF3.out.ngt HM3.out (by decide) (by rw [Rw.blk, HG.out]; rfl)
      have HFREE : Hid (¬ S3.has g) := HF3.out.2 g (by rw [Rw.blk, HG.out]; rfl)
      have HGP := hidI hgp
      have HGT := hidI hgt
      clear hgp hgt
      go_wp2
      go_loopg [22] l.length (fun k i wr => ∃ (j : Nat), i = .int .i64 j ∧ j + k = l.length ∧ IM C gt cap base gp S3 a3.1 wr ∧ IS gp S w S3 wr ∧ Fr 102 4 wr b0 r l.length ((mxE a3.2 l j).flatMap epL) S3)
      case atStart => exact ⟨0, rfl, by omega, HM3.out, HS3.out, HF4.out⟩
      case round =>
        obtain ⟨j, rfl, hj, m', s', f'⟩ := hrel
        have HMr : Hid (IM C gt cap base gp S3 a3.1 wr) := m'
        have HSr : Hid (IS gp S w S3 wr) := s'
        have HFr : Hid (Fr 102 4 wr b0 r l.length ((mxE a3.2 l j).flatMap epL) S3) := f'
        clear m' s' f'
        by_cases hlt : j < l.length
        · have hlti : (j : Int) < (l.length : Int) := by omega
          obtain ⟨x, hx⟩ := getsome hlt
          have HX := hidI hx
          have hfr := HFr.out.1
          have ho : OwnR wr b0 102 4 r (mxE a3.2 l j).length ((mxE a3.2 l j).flatMap epL) := by rw [mxE_len]; exact hfr
          obtain ⟨g', hg', hcl⟩ := OwnR.elem (f := epL) (m := 4) (fun _ => rfl) ho (mxE_at hx)
          have eg : g' = g := by have := hg'.symm.trans HG.out; simpa using this
          subst eg
          have k0 := hcl 0 (by omega)
          have k3 := hcl 3 (by omega)
          simp only [epL, expLoc, Nat.add_zero, List.getElem?_cons_zero, List.getElem?_cons_succ] at k0 k3
          unfold OwnR at hfr
          rw [HG.out] at hfr
          have hfz := hfr.frozenAt
          have HOW := hidI hfr
          clear hcl hg' hx hfr ho
          obtain ⟨j1, hj1⟩ : ∃ j1, j1 = j + 1 := ⟨_, rfl⟩
          have ej : (j : Int) + 1 = (j1 : Int) := by omega
          have HJ := hidI hj1
          clear hj1
          go_wp2
          go_roundg (gk - 1)
          case rel =>
            refine ⟨j1, rfl, by have := HJ.out; omega, (HMr.out.set HGP.out HGT.out HFREE.out _ _).set HGP.out HGT.out HFREE.out _ _, (HSr.out.new HG0.out _ _).new HG0.out _ _, ?_, HFr.out.2⟩
            have st1 := (HOW.out.stored (j * 4 + 0) (.int .i64 2)).1
            have st2 := (st1.stored (j * 4 + 3) (.string a3.2)).1
            rw [flat_set epL 4 (fun _ => rfl) _ j 0 (expLoc x) ⟨2, x.name, x.loc, sNone⟩ (.int .i64 2) (mxE_at HX.out) (by omega) rfl, flat_set epL 4 (fun _ => rfl) ((mxE a3.2 l j).set j ⟨2, x.name, x.loc, sNone⟩) j 3 ⟨2, x.name, x.loc, sNone⟩ (expFrom a3.2 x) (.string a3.2) (List.getElem?_set_self (by rw [mxE_len]; exact hlt)) (by omega) rfl, List.set_set, mxE_step HX.out, ← HJ.out] at st2
            unfold OwnR
            rw [HG.out]
            exact st2
          case measure => omega
        · have hlti : ¬ (j : Int) < (l.length : Int) := by omega
          have ejl : j = l.length := by omega
          subst ejl
          have HFs : Hid (Fr 102 4 wr b0 r l.length (l.flatMap fun e => epL (expFrom a3.2 e)) S3) := by show Fr _ _ _ _ _ _ _ _; rw [← flat_map, ← mxE_all a3.2 l]; exact HFr.out
          go_wp2_with fail
          refine (passSign C gt cap base gp S3 a3.1 59 _ HMr.out).mono ?_
          cases hn4 : tokP C 4 cSemi a3.1 with
          | error p =>
            rintro e w4 ⟨rfl, hb⟩
            have HB : Hid (Below base w w4) := (HH.out.back HSr.out).trans hb
            have HX : Hid (expNamesI C l q = .error p) := bdE HY3.out hn4
            unfold Pan
            go_wp2
            refine ⟨rfl, ?_⟩
            rw [HX.out]
            exact ⟨rfl, HB.out⟩
          | ok a4 =>
            rintro e w4 ⟨rfl, S4, m, s⟩
            have HF4 : Hid (Fr 102 4 w4 b0 r l.length (l.flatMap fun e => epL (expFrom a3.2 e)) S4) := HFs.out.step HMr.out (by decide) s
            have HM4 := hidI m
            have HS4 : Hid (IS gp S w S4 w4) := HSr.out.trans s
            clear m s
            have HY4 := hidI (bdO HY3.out hn4)
            have hpos : 0 < a4.pos := by rw [(tokP_ok hn4).1]; exact Nat.succ_pos _
            go_wp2
            go_loopg [39] l.length (fun k i wr => ∃ (j : Nat) (S' : Sv) (q' : PS), i = .int .i64 j ∧ j + k = l.length ∧ expNamesI C l q = addAll (fun e => addEp C (expFrom a3.2 e)) (l.drop j) (.ok q') ∧ 0 < q'.pos ∧ IM C gt cap base gp S' q' wr ∧ IS gp S w S' wr ∧ Fr 102 4 wr b0 r l.length (l.flatMap fun e => epL (expFrom a3.2 e)) S')
            case atStart => exact ⟨0, S4, a4, rfl, by omega, HY4.out, hpos, HM4.out, HS4.out, HF4.out⟩
            case round =>
              obtain ⟨j, S', q', rfl, hj, hy, hp', m', s', f'⟩ := hrel
              have HYr := hidI hy
              have HMr : Hid (IM C gt cap base gp S' q' wr) := m'
              have HSr : Hid (IS gp S w S' wr) := s'
              have HFr : Hid (Fr 102 4 wr b0 r l.length (l.flatMap fun e => epL (expFrom a3.2 e)) S') := f'
              clear hy m' s' f'
              by_cases hlt : j < l.length
              · have hlti : (j : Int) < (l.length : Int) := by omega
                obtain ⟨x, hx⟩ := getsome hlt
                obtain ⟨g', hg', hcl⟩ := OwnR.elem (f := fun e => epL (expFrom a3.2 e)) (m := 4) (fun _ => rfl) HFr.out.1 hx
                have eg : g' = g := by have := hg'.symm.trans HG.out; simpa using this
                subst eg
                have k0 := hcl 0 (by omega)
                have k1 := hcl 1 (by omega)
                have k2 := hcl 2 (by omega)
                have k3 := hcl 3 (by omega)
                simp only [epL, expFrom, Nat.add_zero, List.getElem?_cons_zero, List.getElem?_cons_succ] at k0 k1 k2 k3
                have HZ := hidI (HYr.out.trans (addAll_dropI (fun e => addEp C (expFrom a3.2 e)) hx q'))
                clear hcl hg' hx
                obtain ⟨j1, hj1⟩ : ∃ j1, j1 = j + 1 := ⟨_, rfl⟩
                have ej : (j : Int) + 1 = (j1 : Int) := by omega
                rw [← hj1] at HZ
                have hgp := HMr.out.lt
                have HJ := hidI hj1
                clear hj1
                go_wp2_with fail
                refine (addExp_any C gt cap base gp S' q' (expFrom a3.2 x) _ (HMr.out.alloc _) hp').mono ?_
                cases hn : addEp C (expFrom a3.2 x) q' with
                | error p =>
                  rintro e wy ⟨rfl, hb⟩
                  have HB : Hid (Below base w wy) := (HH.out.back (HSr.out.alloc _)).trans hb
                  have HX : Hid (expNamesI C l q = .error p) := by show _ = _; rw [HZ.out, hn]; exact addAll_errorI _ _ _
                  unfold Pan
                  go_wp2
                  refine ⟨rfl, ?_⟩
                  rw [HX.out]
                  exact ⟨rfl, HB.out⟩
                | ok ay =>
                  rintro e wy ⟨rfl, Sy, m, s⟩
                  have HMy := hidI m
                  have HSy : Hid (IS gp S w Sy wy) := (HSr.out.alloc _).trans s
                  have HFy : Hid (Fr 102 4 wy b0 r l.length (l.flatMap fun e => epL (expFrom a3.2 e)) Sy) := (HFr.out.later ((Below.refl _ _).alloc (Nat.le_refl _) _)).step (HMr.out.alloc _) (by decide) s
                  have HYy : Hid (expNamesI C l q = addAll (fun e => addEp C (expFrom a3.2 e)) (l.drop j1) (.ok ay)) := by show _ = _; rw [HZ.out, hn]
                  have HPy : Hid (0 < ay.pos) := by show 0 < ay.pos; rw [addEp_posI hn]; exact hp'
                  clear m s
                  go_wp2
                  go_roundg (gk - 1)
                  case rel => exact ⟨j1, Sy, ay, rfl, by have := HJ.out; omega, HYy.out, HPy.out, HMy.out, HSy.out, HFy.out⟩
                  case measure => omega
              · have hlti : ¬ (j : Int) < (l.length : Int) := by omega
                have HZ : Hid (expNamesI C l q = .ok q') := by show _ = _; rw [HYr.out, List.drop_eq_nil_of_le (by omega)]; rfl
                go_wp2
                go_end0
                rw [HZ.out]
                exact ⟨rfl, S', HMr.out, HSr.out⟩
end Go.Proofs.YticdggnnpjachaaGreat
namespace Go.Proofs.YticdggnnpjachaaGreat
open Go.RowKit Go.PlainAid Go.Sort

theorem exportNames_any (C : Cx) (gt cap base gp b0 : Nat) (r : Rw) (S Sc : Sv) (q0 q : PS) (l : List Ep) (w wc : World) (hh : IM C gt cap base gp S q0 w) (h : IM C gt cap base gp Sc q wc) (h0 : IS gp S w Sc wc) (hC : Sized C) (hl : l.length ≤ 4000) (hl0 : l.length ≠ 0) (hf : Fr 102 4 wc b0 r l.length (l.flatMap (fun e => epL (expLoc e))) Sc) (hb0 : w.heap.size ≤ b0) :
    Calls Tryz.prog 176 #[.pointer (some ⟨gp, 0, none⟩), .slice r.a l.length r.cap] wc (IOut C gt cap base gp (expNamesI C l q) id (fun _ => .tuple #[]) S w) := by
  rcases hf.1.nil_or with ⟨_, _, e⟩ | ⟨g, hg⟩
  · exact absurd e hl0
  · have hg0 : w.heap.size ≤ g := Nat.le_trans hb0 (hf.1.typed (show r.blk = some g by rw [Rw.blk, hg]; rfl)).1
    rw [hg]
    cases hi : isT C q.pos 1 sFrom with
    | true => exact exportNames_1 C gt cap base gp b0 g r S Sc q0 q l w wc hh h h0 hC hl hf hg hg0 hi
    | false =>
      cases ha : anyB l with
      | true => exact exportNames_2 C gt cap base gp b0 g r S Sc q0 q l w wc hh h h0 hl hf hg hi ha
      | false => exact exportNames_3 C gt cap base gp b0 g r S Sc q0 q l w wc hh h h0 hl hf hg hi ha
theorem addSt_okI {C : Cx} {k : Int} {n : ByteArray} {q b : PS} (h : addSt C k n q = .ok b) : b = { q with st := q.st ++ [⟨k, n, (q.ex.length : Int) - 1⟩] } := by
  unfold addSt at h
  split at h
  · cases h
  · cases h
    rfl
theorem stmtI_last {C : Cx} {k : Int} {n s : ByteArray} {q b : PS} (h : stmtI C k n s q = .ok b) (hs : 0 < s.size) : (∃ l e, b.st = l ++ [⟨k, n, e⟩]) ∧ 0 < b.pos := by
  obtain ⟨a, h1, h2⟩ := bd_eq_ok h
  obtain ⟨c, h3, h4⟩ := bd_eq_ok h2
  have e1 := signsP_ok _ h3
  have e2 := addSt_okI h4
  subst e2
  refine ⟨⟨_, _, rfl⟩, ?_⟩
  rw [e1]
  show 0 < a.pos + s.size
  omega
theorem letJ_last {C : Cx} {k : Int} {q b : PS} (h : letJ C k q = .ok b) : (∃ l e, b.st = l ++ [⟨k, (tokAt C q.pos).text, e⟩]) ∧ 0 < b.pos := by
  obtain ⟨a, h1, h2⟩ := bd_eq_ok h
  obtain ⟨c, h3, h4⟩ := bd_eq_ok h2
  have := stmtI_last h4 (by decide)
  rw [(nameP_ok h1).1] at this
  exact this
theorem fnI_last {C : Cx} {q b : PS} (h : fnI C q = .ok b) : (∃ l e, b.st = l ++ [⟨2, (tokAt C q.pos).text, e⟩]) ∧ 0 < b.pos := by
  obtain ⟨a, h1, h2⟩ := bd_eq_ok h
  obtain ⟨c, h3, h4⟩ := bd_eq_ok h2
  obtain ⟨d, h5, h6⟩ := bd_eq_ok h4
  have := stmtI_last h6 (by decide)
  rw [(nameP_ok h1).1] at this
  exact this
theorem exportLast_n (C : Cx) (gt cap base gp : Nat) (S : Sv) (q : PS) (l : List Sm) (k e : Int) (n : ByteArray) (w : World) (h : IM C gt cap base gp S q w) (hx : q.st = l ++ [⟨k, n, e⟩]) (hsz : n.size ≤ 281474976710656) (hp : 0 < q.pos) :
    Calls Tryz.prog 179 #[.pointer (some ⟨gp, 0, none⟩)] w (IOut C gt cap base gp (addEp C ⟨1, n, n, sNone⟩ q) id (fun _ => .tuple #[]) S w) := exportLast_any C gt cap base gp S q l ⟨k, n, e⟩ w h hx hsz hp
def expItemI (C : Cx) (q : PS) : PR :=
  if isT C q.pos 4 cLeft then bd (listL C true (adv q) []) fun a => expNamesI C a.2 a.1
  else if isT C q.pos 4 cStar then bd (tokP C 1 sFrom (adv q)) fun a => bd (specP C a) fun b => bd (tokP C 4 cSemi b.1) fun c => addEp C ⟨3, sNone, sNone, b.2⟩ c
  else if isT C q.pos 1 sDefault then bd (stmtI C 1 sDefName cSemi (adv q)) fun a => addEp C ⟨1, sDefault, sDefName, sNone⟩ a
  else if isT C q.pos 1 sLet then bd (letJ C 1 (adv q)) fun a => addEp C ⟨1, (tokAt C (q.pos + 1)).text, (tokAt C (q.pos + 1)).text, sNone⟩ a
  else if isT C q.pos 1 sFunction then bd (fnI C (adv q)) fun a => addEp C ⟨1, (tokAt C (q.pos + 1)).text, (tokAt C (q.pos + 1)).text, sNone⟩ a
  else .error (here C q.pos)

set_option maxRecDepth 100000 in
set_option maxHeartbeats 1600000 in
theorem exportItem_1 (C : Cx) (gt cap base gp : Nat) (S : Sv) (q : PS) (w : World) (h : IM C gt cap base gp S q w) (hC : Sized C) (h1 : isT C q.pos 4 cLeft = true) :
    Calls Tryz.prog 150 #[.pointer (some ⟨gp, 0, none⟩)] w (IOut C gt cap base gp (expItemI C q) id (fun _ => .tuple #[]) S w) := by
  have HH := hidI h
  have HY : Hid (expItemI C q = bd (listL C true (adv q) []) fun a => expNamesI C a.2 a.1) := by show _ = _; rw [expItemI, h1]; rfl
  clear h
  go_enter Tryz.func150, Tryz.ntmps150
  go_wp2_with fail
  refine (passes_any C gt cap base gp S q 4 cLeft _ HH.out (by decide)).mono ?_
  rintro e w1 ⟨rfl, m, s⟩
  rw [h1] at m ⊢
  have HM1 := hidI m
  have HS1 := hidI s
  clear m s
  go_wp2_with fail
  refine (exportList_any C gt cap base gp S (adv q) _ HM1.out).mono ?_
  cases hn3 : listL C true (adv q) [] with
  | error p =>
    rintro e w3 ⟨rfl, hb⟩
    have HB : Hid (Below base w w3) := (HH.out.back HS1.out).trans hb
    have HX : Hid (expItemI C q = .error p) := bdE HY.out hn3
    unfold Pan
    go_wp2
    refine ⟨rfl, ?_⟩
    rw [HX.out]
    exact ⟨rfl, HB.out⟩
  | ok a3 =>
    rintro e w3 ⟨r, S3, rfl, m, s, f, l0, l1⟩
    have HM3 := hidI m
    have HS3 : Hid (IS gp S w S3 w3) := HS1.out.trans s
    have HF3 := hidI f
    clear m s f
    have HY3 := hidI (bdO HY.out hn3)
    go_wp2_with fail
    refine (exportNames_any C gt cap base gp _ r S S3 q a3.1 a3.2 w _ HH.out HM3.out HS3.out hC l1 (by omega) HF3.out HS1.out.size).mono ?_
    cases hn4 : expNamesI C a3.2 a3.1 with
    | error p =>
      rintro e w4 ⟨rfl, hb⟩
      have HB := hidI hb
      have HX := hidI (HY3.out.trans hn4)
      unfold Pan
      go_wp2
      refine ⟨rfl, ?_⟩
      rw [HX.out]
      exact ⟨rfl, HB.out⟩
    | ok a4 =>
      rintro e w4 ⟨rfl, S4, m, s⟩
      have HM4 := hidI m
      have HS4 := hidI s
      clear m s
      have HX := hidI (HY3.out.trans hn4)
      go_wp2
      go_end0
      rw [HX.out]
      exact ⟨rfl, S4, HM4.out, HS4.out⟩

set_option maxRecDepth 100000 in
set_option maxHeartbeats 1600000 in
theorem exportItem_2 (C : Cx) (gt cap base gp : Nat) (S : Sv) (q : PS) (w : World) (h : IM C gt cap base gp S q w) (hC : Sized C) (h1 : isT C q.pos 4 cLeft = false) (h2 : isT C q.pos 4 cStar = true) :
    Calls Tryz.prog 150 #[.pointer (some ⟨gp, 0, none⟩)] w (IOut C gt cap base gp (expItemI C q) id (fun _ => .tuple #[]) S w) := by
  have HH := hidI h
  have HY : Hid (expItemI C q = bd (tokP C 1 sFrom (adv q)) fun a => bd (specP C a) fun b => bd (tokP C 4 cSemi b.1) fun c => addEp C ⟨3, sNone, sNone, b.2⟩ c) := by show _ = _; rw [expItemI, h1, h2]; rfl
  clear h
  go_enter Tryz.func150, Tryz.ntmps150
  go_wp2_with fail
  refine (passes_any C gt cap base gp S q 4 cLeft _ HH.out (by decide)).mono ?_
  rintro e w1 ⟨rfl, m, s⟩
  rw [h1] at m ⊢
  have HM1 := hidI m
  have HS1 := hidI s
  clear m s
  go_wp2_with fail
  refine (passes_any C gt cap base gp S q 4 cStar _ HM1.out (by decide)).mono ?_
  rintro e w2 ⟨rfl, m, s⟩
  rw [h2] at m ⊢
  have HM2 := hidI m
  have HS2 : Hid (IS gp S w S w2) := HS1.out.trans s
  clear m s
  go_wp2_with fail
  refine (passName_any C gt cap base gp S (adv q) sFrom _ HM2.out).mono ?_
  cases hn3 : tokP C 1 sFrom (adv q) with
  | error p =>
    rintro e w3 ⟨rfl, hb⟩
    have HB : Hid (Below base w w3) := (HH.out.back HS2.out).trans hb
    have HX : Hid (expItemI C q = .error p) := bdE HY.out hn3
    unfold Pan
    go_wp2
    refine ⟨rfl, ?_⟩
    rw [HX.out]
    exact ⟨rfl, HB.out⟩
  | ok a3 =>
    rintro e w3 ⟨rfl, S3, m, s⟩
    have HM3 := hidI m
    have HS3 : Hid (IS gp S w S3 w3) := HS2.out.trans s
    clear m s
    have HY3 := hidI (bdO HY.out hn3)
    go_wp2_with fail
    refine (request_any C gt cap base gp S3 a3 _ HM3.out hC).mono ?_
    cases hn4 : specP C a3 with
    | error p =>
      rintro e w4 ⟨rfl, hb⟩
      have HB : Hid (Below base w w4) := (HH.out.back HS3.out).trans hb
      have HX : Hid (expItemI C q = .error p) := bdE HY3.out hn4
      unfold Pan
      go_wp2
      refine ⟨rfl, ?_⟩
      rw [HX.out]
      exact ⟨rfl, HB.out⟩
    | ok a4 =>
      rintro e w4 ⟨rfl, S4, m, s⟩
      have HM4 := hidI m
      have HS4 : Hid (IS gp S w S4 w4) := HS3.out.trans s
      clear m s
      have HY4 := hidI (bdO HY3.out hn4)
      go_wp2_with fail
      refine (passSign C gt cap base gp S4 a4.1 59 _ HM4.out).mono ?_
      cases hn5 : tokP C 4 cSemi a4.1 with
      | error p =>
        rintro e w5 ⟨rfl, hb⟩
        have HB : Hid (Below base w w5) := (HH.out.back HS4.out).trans hb
        have HX : Hid (expItemI C q = .error p) := bdE HY4.out hn5
        unfold Pan
        go_wp2
        refine ⟨rfl, ?_⟩
        rw [HX.out]
        exact ⟨rfl, HB.out⟩
      | ok a5 =>
        rintro e w5 ⟨rfl, S5, m, s⟩
        have HM5 := hidI m
        have HS5 : Hid (IS gp S w S5 w5) := HS4.out.trans s
        clear m s
        have HY5 := hidI (bdO HY4.out hn5)
        have hpos : 0 < a5.pos := by rw [(tokP_ok hn5).1]; exact Nat.succ_pos _
        go_wp2_with fail
        refine (addExp_any C gt cap base gp S5 a5 ⟨3, sNone, sNone, a4.2⟩ _ HM5.out hpos).mono ?_
        cases hn6 : addEp C ⟨3, sNone, sNone, a4.2⟩ a5 with
        | error p =>
          rintro e w6 ⟨rfl, hb⟩
          have HB : Hid (Below base w w6) := (HH.out.back HS5.out).trans hb
          have HX : Hid (expItemI C q = .error p) := HY5.out.trans hn6
          unfold Pan
          go_wp2
          refine ⟨rfl, ?_⟩
          rw [HX.out]
          exact ⟨rfl, HB.out⟩
        | ok a6 =>
          rintro e w6 ⟨rfl, S6, m, s⟩
          have HM6 := hidI m
          have HS6 : Hid (IS gp S w S6 w6) := HS5.out.trans s
          clear m s
          have HY6 := hidI (HY5.out.trans hn6)
          go_wp2
          go_end0
          rw [HY6.out]
          exact ⟨rfl, S6, HM6.out, HS6.out⟩

set_option maxRecDepth 100000 in
set_option maxHeartbeats 1600000 in
theorem exportItem_3 (C : Cx) (gt cap base gp : Nat) (S : Sv) (q : PS) (w : World) (h : IM C gt cap base gp S q w) (h1 : isT C q.pos 4 cLeft = false) (h2 : isT C q.pos 4 cStar = false) (h3 : isT C q.pos 1 sDefault = true) :
    Calls Tryz.prog 150 #[.pointer (some ⟨gp, 0, none⟩)] w (IOut C gt cap base gp (expItemI C q) id (fun _ => .tuple #[]) S w) := by
  have HH := hidI h
  have HY : Hid (expItemI C q = bd (stmtI C 1 sDefName cSemi (adv q)) fun a => addEp C ⟨1, sDefault, sDefName, sNone⟩ a) := by show _ = _; rw [expItemI, h1, h2, h3]; rfl
  clear h
  go_enter Tryz.func150, Tryz.ntmps150
  go_wp2_with fail
  refine (passes_any C gt cap base gp S q 4 cLeft _ HH.out (by decide)).mono ?_
  rintro e w1 ⟨rfl, m, s⟩
  rw [h1] at m ⊢
  have HM1 := hidI m
  have HS1 := hidI s
  clear m s
  go_wp2_with fail
  refine (passes_any C gt cap base gp S q 4 cStar _ HM1.out (by decide)).mono ?_
  rintro e w2 ⟨rfl, m, s⟩
  rw [h2] at m ⊢
  have HM2 := hidI m
  have HS2 : Hid (IS gp S w S w2) := HS1.out.trans s
  clear m s
  go_wp2_with fail
  refine (passes_any C gt cap base gp S q 1 sDefault _ HM2.out (by decide)).mono ?_
  rintro e w3 ⟨rfl, m, s⟩
  rw [h3] at m ⊢
  have HM3 := hidI m
  have HS3 : Hid (IS gp S w S w3) := HS2.out.trans s
  clear m s
  go_wp2_with fail
  refine (statement_any C gt cap base gp S (adv q) 1 sDefName cSemi _ HM3.out (by decide) (by decide)).mono ?_
  cases hn4 : stmtI C 1 sDefName cSemi (adv q) with
  | error p =>
    rintro e w4 ⟨rfl, hb⟩
    have HB : Hid (Below base w w4) := (HH.out.back HS3.out).trans hb
    have HX : Hid (expItemI C q = .error p) := bdE HY.out hn4
    unfold Pan
    go_wp2
    refine ⟨rfl, ?_⟩
    rw [HX.out]
    exact ⟨rfl, HB.out⟩
  | ok a4 =>
    rintro e w4 ⟨rfl, S4, m, s⟩
    have HM4 := hidI m
    have HS4 : Hid (IS gp S w S4 w4) := HS3.out.trans s
    clear m s
    have HY4 := hidI (bdO HY.out hn4)
    have hpos := (stmtI_last hn4 (by decide)).2
    go_wp2_with fail
    refine (addExp_any C gt cap base gp S4 a4 ⟨1, sDefault, sDefName, sNone⟩ _ HM4.out hpos).mono ?_
    cases hn5 : addEp C ⟨1, sDefault, sDefName, sNone⟩ a4 with
    | error p =>
      rintro e w5 ⟨rfl, hb⟩
      have HB : Hid (Below base w w5) := (HH.out.back HS4.out).trans hb
      have HX : Hid (expItemI C q = .error p) := HY4.out.trans hn5
      unfold Pan
      go_wp2
      refine ⟨rfl, ?_⟩
      rw [HX.out]
      exact ⟨rfl, HB.out⟩
    | ok a5 =>
      rintro e w5 ⟨rfl, S5, m, s⟩
      have HM5 := hidI m
      have HS5 : Hid (IS gp S w S5 w5) := HS4.out.trans s
      clear m s
      have HY5 := hidI (HY4.out.trans hn5)
      go_wp2
      go_end0
      rw [HY5.out]
      exact ⟨rfl, S5, HM5.out, HS5.out⟩

set_option maxRecDepth 100000 in
set_option maxHeartbeats 1600000 in
theorem exportItem_4 (C : Cx) (gt cap base gp : Nat) (S : Sv) (q : PS) (w : World) (h : IM C gt cap base gp S q w) (hC : Sized C) (h1 : isT C q.pos 4 cLeft = false) (h2 : isT C q.pos 4 cStar = false) (h3 : isT C q.pos 1 sDefault = false) (h4 : isT C q.pos 1 sLet = true) :
    Calls Tryz.prog 150 #[.pointer (some ⟨gp, 0, none⟩)] w (IOut C gt cap base gp (expItemI C q) id (fun _ => .tuple #[]) S w) := by
  have HH := hidI h
  have HY : Hid (expItemI C q = bd (letJ C 1 (adv q)) fun a => addEp C ⟨1, (tokAt C (q.pos + 1)).text, (tokAt C (q.pos + 1)).text, sNone⟩ a) := by show _ = _; rw [expItemI, h1, h2, h3, h4]; rfl
  clear h
  go_enter Tryz.func150, Tryz.ntmps150
  go_wp2_with fail
  refine (passes_any C gt cap base gp S q 4 cLeft _ HH.out (by decide)).mono ?_
  rintro e w1 ⟨rfl, m, s⟩
  rw [h1] at m ⊢
  have HM1 := hidI m
  have HS1 := hidI s
  clear m s
  go_wp2_with fail
  refine (passes_any C gt cap base gp S q 4 cStar _ HM1.out (by decide)).mono ?_
  rintro e w2 ⟨rfl, m, s⟩
  rw [h2] at m ⊢
  have HM2 := hidI m
  have HS2 : Hid (IS gp S w S w2) := HS1.out.trans s
  clear m s
  go_wp2_with fail
  refine (passes_any C gt cap base gp S q 1 sDefault _ HM2.out (by decide)).mono ?_
  rintro e w3 ⟨rfl, m, s⟩
  rw [h3] at m ⊢
  have HM3 := hidI m
  have HS3 : Hid (IS gp S w S w3) := HS2.out.trans s
  clear m s
  go_wp2_with fail
  refine (passes_any C gt cap base gp S q 1 sLet _ HM3.out (by decide)).mono ?_
  rintro e w4 ⟨rfl, m, s⟩
  rw [h4] at m ⊢
  have HM4 := hidI m
  have HS4 : Hid (IS gp S w S w4) := HS3.out.trans s
  clear m s
  go_wp2_with fail
  refine (letItem_any C gt cap base gp S (adv q) _ HM4.out).mono ?_
  cases hn5 : letJ C 1 (adv q) with
  | error p =>
    rintro e w5 ⟨rfl, hb⟩
    have HB : Hid (Below base w w5) := (HH.out.back HS4.out).trans hb
    have HX : Hid (expItemI C q = .error p) := bdE HY.out hn5
    unfold Pan
    go_wp2
    refine ⟨rfl, ?_⟩
    rw [HX.out]
    exact ⟨rfl, HB.out⟩
  | ok a5 =>
    rintro e w5 ⟨rfl, S5, m, s⟩
    have HM5 := hidI m
    have HS5 : Hid (IS gp S w S5 w5) := HS4.out.trans s
    clear m s
    have HY5 := hidI (bdO HY.out hn5)
    obtain ⟨⟨l, e, hst⟩, hpos⟩ := letJ_last hn5
    have HST := hidI hst
    clear hst
    go_wp2_with fail
    refine (exportLast_n C gt cap base gp S5 a5 l _ _ (tokAt C (q.pos + 1)).text _ HM5.out HST.out (hC _) hpos).mono ?_
    cases hn6 : addEp C ⟨1, (tokAt C (q.pos + 1)).text, (tokAt C (q.pos + 1)).text, sNone⟩ a5 with
    | error p =>
      rintro e w6 ⟨rfl, hb⟩
      have HB : Hid (Below base w w6) := (HH.out.back HS5.out).trans hb
      have HX : Hid (expItemI C q = .error p) := HY5.out.trans hn6
      unfold Pan
      go_wp2
      refine ⟨rfl, ?_⟩
      rw [HX.out]
      exact ⟨rfl, HB.out⟩
    | ok a6 =>
      rintro e w6 ⟨rfl, S6, m, s⟩
      have HM6 := hidI m
      have HS6 : Hid (IS gp S w S6 w6) := HS5.out.trans s
      clear m s
      have HY6 := hidI (HY5.out.trans hn6)
      go_wp2
      go_end0
      rw [HY6.out]
      exact ⟨rfl, S6, HM6.out, HS6.out⟩

set_option maxRecDepth 100000 in
set_option maxHeartbeats 1600000 in
theorem exportItem_5 (C : Cx) (gt cap base gp : Nat) (S : Sv) (q : PS) (w : World) (h : IM C gt cap base gp S q w) (hC : Sized C) (h1 : isT C q.pos 4 cLeft = false) (h2 : isT C q.pos 4 cStar = false) (h3 : isT C q.pos 1 sDefault = false) (h4 : isT C q.pos 1 sLet = false) (h5 : isT C q.pos 1 sFunction = true) :
    Calls Tryz.prog 150 #[.pointer (some ⟨gp, 0, none⟩)] w (IOut C gt cap base gp (expItemI C q) id (fun _ => .tuple #[]) S w) := by
  have HH := hidI h
  have HY : Hid (expItemI C q = bd (fnI C (adv q)) fun a => addEp C ⟨1, (tokAt C (q.pos + 1)).text, (tokAt C (q.pos + 1)).text, sNone⟩ a) := by show _ = _; rw [expItemI, h1, h2, h3, h4, h5]; rfl
  clear h
  go_enter Tryz.func150, Tryz.ntmps150
  go_wp2_with fail
  refine (passes_any C gt cap base gp S q 4 cLeft _ HH.out (by decide)).mono ?_
  rintro e w1 ⟨rfl, m, s⟩
  rw [h1] at m ⊢
  have HM1 := hidI m
  have HS1 := hidI s
  clear m s
  go_wp2_with fail
  refine (passes_any C gt cap base gp S q 4 cStar _ HM1.out (by decide)).mono ?_
  rintro e w2 ⟨rfl, m, s⟩
  rw [h2] at m ⊢
  have HM2 := hidI m
  have HS2 : Hid (IS gp S w S w2) := HS1.out.trans s
  clear m s
  go_wp2_with fail
  refine (passes_any C gt cap base gp S q 1 sDefault _ HM2.out (by decide)).mono ?_
  rintro e w3 ⟨rfl, m, s⟩
  rw [h3] at m ⊢
  have HM3 := hidI m
  have HS3 : Hid (IS gp S w S w3) := HS2.out.trans s
  clear m s
  go_wp2_with fail
  refine (passes_any C gt cap base gp S q 1 sLet _ HM3.out (by decide)).mono ?_
  rintro e w4 ⟨rfl, m, s⟩
  rw [h4] at m ⊢
  have HM4 := hidI m
  have HS4 : Hid (IS gp S w S w4) := HS3.out.trans s
  clear m s
  go_wp2_with fail
  refine (passes_any C gt cap base gp S q 1 sFunction _ HM4.out (by decide)).mono ?_
  rintro e w5 ⟨rfl, m, s⟩
  rw [h5] at m ⊢
  have HM5 := hidI m
  have HS5 : Hid (IS gp S w S w5) := HS4.out.trans s
  clear m s
  go_wp2_with fail
  refine (functionItem_any C gt cap base gp S (adv q) _ HM5.out).mono ?_
  cases hn6 : fnI C (adv q) with
  | error p =>
    rintro e w6 ⟨rfl, hb⟩
    have HB : Hid (Below base w w6) := (HH.out.back HS5.out).trans hb
    have HX : Hid (expItemI C q = .error p) := bdE HY.out hn6
    unfold Pan
    go_wp2
    refine ⟨rfl, ?_⟩
    rw [HX.out]
    exact ⟨rfl, HB.out⟩
  | ok a6 =>
    rintro e w6 ⟨rfl, S6, m, s⟩
    have HM6 := hidI m
    have HS6 : Hid (IS gp S w S6 w6) := HS5.out.trans s
    clear m s
    have HY6 := hidI (bdO HY.out hn6)
    obtain ⟨⟨l, e, hst⟩, hpos⟩ := fnI_last hn6
    have HST := hidI hst
    clear hst
    go_wp2_with fail
    refine (exportLast_n C gt cap base gp S6 a6 l _ _ (tokAt C (q.pos + 1)).text _ HM6.out HST.out (hC _) hpos).mono ?_
    cases hn7 : addEp C ⟨1, (tokAt C (q.pos + 1)).text, (tokAt C (q.pos + 1)).text, sNone⟩ a6 with
    | error p =>
      rintro e w7 ⟨rfl, hb⟩
      have HB : Hid (Below base w w7) := (HH.out.back HS6.out).trans hb
      have HX : Hid (expItemI C q = .error p) := HY6.out.trans hn7
      unfold Pan
      go_wp2
      refine ⟨rfl, ?_⟩
      rw [HX.out]
      exact ⟨rfl, HB.out⟩
    | ok a7 =>
      rintro e w7 ⟨rfl, S7, m, s⟩
      have HM7 := hidI m
      have HS7 : Hid (IS gp S w S7 w7) := HS6.out.trans s
      clear m s
      have HY7 := hidI (HY6.out.trans hn7)
      go_wp2
      go_end0
      rw [HY7.out]
      exact ⟨rfl, S7, HM7.out, HS7.out⟩

set_option maxRecDepth 100000 in
set_option maxHeartbeats 1600000 in
theorem exportItem_6 (C : Cx) (gt cap base gp : Nat) (S : Sv) (q : PS) (w : World) (h : IM C gt cap base gp S q w) (h1 : isT C q.pos 4 cLeft = false) (h2 : isT C q.pos 4 cStar = false) (h3 : isT C q.pos 1 sDefault = false) (h4 : isT C q.pos 1 sLet = false) (h5 : isT C q.pos 1 sFunction = false) :
    Calls Tryz.prog 150 #[.pointer (some ⟨gp, 0, none⟩)] w (IOut C gt cap base gp (expItemI C q) id (fun _ => .tuple #[]) S w) := by
  have HH := hidI h
  have HY : Hid (expItemI C q = .error (here C q.pos)) := by show _ = _; rw [expItemI, h1, h2, h3, h4, h5]; rfl
  clear h
  go_enter Tryz.func150, Tryz.ntmps150
  go_wp2_with fail
  refine (passes_any C gt cap base gp S q 4 cLeft _ HH.out (by decide)).mono ?_
  rintro e w1 ⟨rfl, m, s⟩
  rw [h1] at m ⊢
  have HM1 := hidI m
  have HS1 := hidI s
  clear m s
  go_wp2_with fail
  refine (passes_any C gt cap base gp S q 4 cStar _ HM1.out (by decide)).mono ?_
  rintro e w2 ⟨rfl, m, s⟩
  rw [h2] at m ⊢
  have HM2 := hidI m
  have HS2 : Hid (IS gp S w S w2) := HS1.out.trans s
  clear m s
  go_wp2_with fail
  refine (passes_any C gt cap base gp S q 1 sDefault _ HM2.out (by decide)).mono ?_
  rintro e w3 ⟨rfl, m, s⟩
  rw [h3] at m ⊢
  have HM3 := hidI m
  have HS3 : Hid (IS gp S w S w3) := HS2.out.trans s
  clear m s
  go_wp2_with fail
  refine (passes_any C gt cap base gp S q 1 sLet _ HM3.out (by decide)).mono ?_
  rintro e w4 ⟨rfl, m, s⟩
  rw [h4] at m ⊢
  have HM4 := hidI m
  have HS4 : Hid (IS gp S w S w4) := HS3.out.trans s
  clear m s
  go_wp2_with fail
  refine (passes_any C gt cap base gp S q 1 sFunction _ HM4.out (by decide)).mono ?_
  rintro e w5 ⟨rfl, m, s⟩
  rw [h5] at m ⊢
  have HM5 := hidI m
  have HS5 : Hid (IS gp S w S w5) := HS4.out.trans s
  clear m s
  go_wp2_with fail
  refine (refuse_any C gt cap base gp S q _ HM5.out).mono ?_
  rintro e wz ⟨rfl, hb⟩
  have HB : Hid (Below base w wz) := (HH.out.back HS5.out).trans (hb.mono HM5.out.mem.base)
  have HX : Hid (expItemI C q = .error (here C q.pos)) := HY.out
  unfold Pan
  go_wp2
  refine ⟨rfl, ?_⟩
  rw [HX.out]
  exact ⟨rfl, HB.out⟩

theorem exportItem_any (C : Cx) (gt cap base gp : Nat) (S : Sv) (q : PS) (w : World) (h : IM C gt cap base gp S q w) (hC : Sized C) :
    Calls Tryz.prog 150 #[.pointer (some ⟨gp, 0, none⟩)] w (IOut C gt cap base gp (expItemI C q) id (fun _ => .tuple #[]) S w) := by
  cases h1 : isT C q.pos 4 cLeft with
  | true => exact exportItem_1 C gt cap base gp S q w h hC h1
  | false =>
    cases h2 : isT C q.pos 4 cStar with
    | true => exact exportItem_2 C gt cap base gp S q w h hC h1 h2
    | false =>
      cases h3 : isT C q.pos 1 sDefault with
      | true => exact exportItem_3 C gt cap base gp S q w h h1 h2 h3
      | false =>
        cases h4 : isT C q.pos 1 sLet with
        | true => exact exportItem_4 C gt cap base gp S q w h hC h1 h2 h3 h4
        | false =>
          cases h5 : isT C q.pos 1 sFunction with
          | true => exact exportItem_5 C gt cap base gp S q w h hC h1 h2 h3 h4 h5
          | false => exact exportItem_6 C gt cap base gp S q w h h1 h2 h3 h4 h5
end Go.Proofs.YticdggnnpjachaaGreat
