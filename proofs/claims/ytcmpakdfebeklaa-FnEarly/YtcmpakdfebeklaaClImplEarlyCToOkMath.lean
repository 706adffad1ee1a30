/-
  What impl's declares and standingsOf answer: the walks.
  What impl's hasTwice answers: the walk.
  What impl's hasUnbound, hasMemberOfNone and hasSpaceAlone answer: the walks.
  Both sides tell the same early errors of a program in which each statement of DefaultName is a let. No program is spoken of.
  What impl.Early answers: the walk.
  What slices.Equal answers of rows of the call's own, the model's != handed in: the walks.
  Two programs in memory side by side. No program is spoken of but for the numbers of its types.
  What a Print and a Parse tell, as a ModOk takes it. No program is spoken of but for the numbers of its types.
-/
import Derived.BigRegion
import Derived.Test.YtcmpakdfebeklaaClImplEarlyB
namespace Go.Proofs.Ytcmpakdfebeklaa
open Go.RowKit Go.PlainAid Go.Sort

def decI (s : Sm) : Bool := s.kind == 2 || (s.kind == 1 && !(s.name.toList == dN))
def kI (l : List Im) : List (Int × ByteArray) := l.flatMap fun x => (1, x.loc) :: if x.first.toList == [42] then [(3, x.loc)] else []
def kS (l : List Sm) : List (Int × ByteArray) := (l.filter decI).map fun x => (1, x.name)
def kE (l : List Ep) : List (Int × ByteArray) := (l.filter fun x => !(x.kind == 3)).map fun x => (2, x.name)
def keysI (m : Md) : List (Int × ByteArray) := kI m.im ++ kS m.st ++ kE m.ep
theorem kI_more {l : List Im} {j : Nat} {x : Im} (h : l[j]? = some x) : kI (l.take (j + 1)) = if x.first.toList == [42] then kI (l.take j) ++ [(1, x.loc)] ++ [(3, x.loc)] else kI (l.take j) ++ [(1, x.loc)] := by
  have e : kI [x] = (1, x.loc) :: if x.first.toList == [42] then [(3, x.loc)] else [] := by rw [kI, List.flatMap_cons, List.flatMap_nil, List.append_nil]
  have e2 : kI (l.take j ++ [x]) = kI (l.take j) ++ kI [x] := by rw [kI, List.flatMap_append]; rfl
  rw [take_snoc h, e2, e]
  generalize (x.first.toList == [42]) = b
  cases b <;> simp
theorem kS_more {l : List Sm} {j : Nat} {x : Sm} (h : l[j]? = some x) : kS (l.take (j + 1)) = if decI x then kS (l.take j) ++ [(1, x.name)] else kS (l.take j) := by
  rw [take_snoc h, kS, kS, List.filter_append]
  cases hd : decI x <;> simp [hd]
theorem kE_more {l : List Ep} {j : Nat} {x : Ep} (h : l[j]? = some x) : kE (l.take (j + 1)) = if x.kind == 3 then kE (l.take j) else kE (l.take j) ++ [(2, x.name)] := by
  rw [take_snoc h, kE, kE, List.filter_append]
  cases hd : (x.kind == 3) <;> simp [hd]
theorem kI_len (l : List Im) : (kI l).length ≤ 2 * l.length := by
  induction l with
  | nil => simp [kI]
  | cons x l ih =>
    have : kI (x :: l) = ((1, x.loc) :: if x.first.toList == [42] then [(3, x.loc)] else []) ++ kI l := rfl
    rw [this, List.length_append, List.length_cons, List.length_cons]
    split <;> simp <;> omega
theorem kS_len (l : List Sm) : (kS l).length ≤ l.length := by
  rw [kS, List.length_map]
  exact List.length_filter_le _ _
theorem kE_len (l : List Ep) : (kE l).length ≤ l.length := by
  rw [kE, List.length_map]
  exact List.length_filter_le _ _
set_option maxRecDepth 100000 in
set_option maxHeartbeats 1600000 in
theorem declares_any (x : Sm) (w : World) :
    Calls Try.prog 68 #[.agg #[.int .i64 x.kind, .string x.name, .int .i64 x.expr]] w fun e w' => e = .returned (.bool (decI x)) ∧ Below w.heap.size w w' := by
  have HB : Hid (Below w.heap.size w (w.alloc (.cells #[.int .i64 x.kind, .string x.name, .int .i64 x.expr] 85))) := (Below.refl _ _).alloc (Nat.le_refl _) _
  cases k2 : (x.kind == 2) with
  | true =>
    have HV : Hid (decI x = true) := by show _ = _; rw [decI, k2]; rfl
    go_enter Try.func68, Try.ntmps68
    go_wp2
    go_ret
    exact ⟨ret_bool HV.out.symm, HB.out⟩
  | false =>
    cases k1 : (x.kind == 1) with
    | false =>
      have HV : Hid (decI x = false) := by show _ = _; rw [decI, k2, k1]; rfl
      go_enter Try.func68, Try.ntmps68
      go_wp2
      go_ret
      exact ⟨ret_bool HV.out.symm, HB.out⟩
    | true =>
      have HV : Hid (decI x = !(x.name.toList == dN)) := by show _ = _; rw [decI, k2, k1]; simp
      go_enter Try.func68, Try.ntmps68
      go_wp2
      go_ret
      exact ⟨ret_bool HV.out.symm, HB.out⟩
def StOut (w : World) (L : List (Int × ByteArray)) (e : Ending) (w' : World) : Prop := ∃ b, e = .returned (.map (some b)) ∧ CntW w' b L ∧ Below w.heap.size w w' ∧ w.heap.size ≤ b
def SU (W0 W : World) (L : List (Int × ByteArray)) : Prop := CntW W W0.heap.size L ∧ Below W0.heap.size W0 W
theorem SU.below {W0 W W' : World} {L : List (Int × ByteArray)} (h : SU W0 W L) (hb : Below W.heap.size W W') : SU W0 W' L := ⟨h.1.kept (hb.block _ h.1.lt), h.2.trans (hb.mono h.2.size)⟩
theorem SU.grown {W0 W W' : World} {L L' : List (Int × ByteArray)} (h : SU W0 W L) (hc : CntW W' W0.heap.size L') (hg : W.grownBy W' (some W0.heap.size)) : SU W0 W' L' := ⟨hc, h.2.grown hg h.2.size fun k hk => by cases hk; exact Nat.le_refl _⟩
theorem SU.start (W0 : World) : SU W0 (W0.alloc (.map #[] 0)) [] := ⟨⟨#[], 0, heap_alloc_new W0 _, cntE_none mkK, fun p hp => by cases hp⟩, (Below.refl _ _).alloc (Nat.le_refl _) _⟩
def NameOk (m : Md) : Prop := (∀ x ∈ m.im, x.loc.size ≤ maxLen) ∧ (∀ x ∈ m.st, x.name.size ≤ maxLen) ∧ (∀ x ∈ m.ep, x.name.size ≤ maxLen ∧ x.loc.size ≤ maxLen) ∧ ∀ x ∈ m.ex, x.name.size ≤ maxLen
set_option maxRecDepth 100000 in
set_option maxHeartbeats 6400000 in
theorem standingsOf_any (V : Sv) (m : Md) (w : World) (hI : RowAt w V.im.a imL 3 m.im) (hE : RowAt w V.ep.a epL 4 m.ep) (hS : RowAt w V.st.a smL 3 m.st) (lI : m.im.length ≤ 10000) (lE : m.ep.length ≤ 10000) (lS : m.st.length ≤ 10000) (hN : NameOk m) :
    Calls Try.prog 39 #[modD V m] w (StOut w (keysI m)) := by
  obtain ⟨a1, ha1⟩ : ∃ a, V.im.a = a := ⟨_, rfl⟩
  obtain ⟨a2, ha2⟩ : ∃ a, V.ep.a = a := ⟨_, rfl⟩
  obtain ⟨a3, ha3⟩ : ∃ a, V.st.a = a := ⟨_, rfl⟩
  unfold modD
  rw [ha1] at hI ⊢
  rw [ha2] at hE ⊢
  rw [ha3] at hS ⊢
  have HB0 : Hid (Below w.heap.size w (w.alloc (.cells #[.slice V.rq.a m.rq.length V.rq.cap, .slice a1 m.im.length V.im.cap, .slice a2 m.ep.length V.ep.cap, .slice a3 m.st.length V.st.cap, .slice V.ex.a m.ex.length V.ex.cap] 41))) := (Below.refl _ _).alloc (Nat.le_refl _) _
  have BOX := hidI (heap_alloc_new w (.cells #[.slice V.rq.a m.rq.length V.rq.cap, .slice a1 m.im.length V.im.cap, .slice a2 m.ep.length V.ep.cap, .slice a3 m.st.length V.st.cap, .slice V.ex.a m.ex.length V.ex.cap] 41))
  have HS := hidI (alloc_size w (.cells #[.slice V.rq.a m.rq.length V.rq.cap, .slice a1 m.im.length V.im.cap, .slice a2 m.ep.length V.ep.cap, .slice a3 m.st.length V.st.cap, .slice V.ex.a m.ex.length V.ex.cap] 41))
  have RI := hidI (hI.later HB0.out)
  have RE := hidI (hE.later HB0.out)
  have RS := hidI (hS.later HB0.out)
  have ST := hidI (SU.start (w.alloc (.cells #[.slice V.rq.a m.rq.length V.rq.cap, .slice a1 m.im.length V.im.cap, .slice a2 m.ep.length V.ep.cap, .slice a3 m.st.length V.st.cap, .slice V.ex.a m.ex.length V.ex.cap] 41)))
  have HNO := hidI hN
  clear hI hE hS ha1 ha2 ha3 hN
  have hmm := @run_makeMap Try.prog
  go_enter Try.func39, Try.ntmps39
  go_upto_region 2 with fail
  obtain ⟨W0, hW0⟩ : ∃ W0, W0 = w.alloc (.cells #[.slice V.rq.a m.rq.length V.rq.cap, .slice a1 m.im.length V.im.cap, .slice a2 m.ep.length V.ep.cap, .slice a3 m.st.length V.st.cap, .slice V.ex.a m.ex.length V.ex.cap] 41) := ⟨_, rfl⟩
  rw [← hW0] at BOX HB0 HS RI RE RS ST ⊢
  refine world_anyI (R := fun W => SU W0 W []) ST.out ?_
  clear hW0 ST hmm
  intro W1 hs1
  have SU1 := hidI hs1
  clear hs1
  obtain ⟨c0, c1, c2, c3, c4, cf⟩ := five_of ((SU1.out.2.block w.heap.size (by rw [HS.out]; omega)).trans BOX.out)
  go_wp2
  go_loopg [14] m.im.length (fun k i wr => ∃ j : Nat, i = .int .i64 j ∧ j + k = m.im.length ∧ SU W0 wr (kI (m.im.take j)))
  case atStart => exact ⟨0, rfl, by omega, SU1.out⟩
  case round =>
    clear c0 c1 c2 c3 c4 cf
    obtain ⟨j, rfl, hj, hsu⟩ := hrel
    have HSU := hidI hsu
    clear hsu
    by_cases hlt : j < m.im.length
    · have hlti : (j : Int) < (m.im.length : Int) := by omega
      obtain ⟨x, hx⟩ : ∃ x, m.im[j]? = some x := ⟨_, List.getElem?_eq_getElem hlt⟩
      obtain ⟨b, off, rfl, hc⟩ := (RI.out.later HSU.out.2).get hx
      have KEY := hidI (kI_more hx)
      have OK1 : Hid (RoleOk (1, x.loc)) := ⟨by show (1 : Int) ≤ 1; omega, by show (1 : Int) ≤ 3; omega, HNO.out.1 x (List.mem_of_getElem? hx)⟩
      have OK3 : Hid (RoleOk (3, x.loc)) := ⟨by show (1 : Int) ≤ 3; omega, by show (3 : Int) ≤ 3; omega, HNO.out.1 x (List.mem_of_getElem? hx)⟩
      have d0 := hc 0 _ rfl
      have d1 := hc 1 _ rfl
      have d2 := hc 2 _ rfl
      simp only [Nat.add_zero] at d0
      clear hc hx
      obtain ⟨L, hL⟩ : ∃ L, L = kI (m.im.take j) := ⟨_, rfl⟩
      have hLl : L.length ≤ 20000 := by rw [hL]; have := kI_len (m.im.take j); rw [List.length_take] at this; omega
      rw [← hL] at HSU KEY
      clear hL
      obtain ⟨j1, hj1⟩ : ∃ j1, j1 = j + 1 := ⟨_, rfl⟩
      have ej : (j : Int) + 1 = (j1 : Int) := by omega
      have FIN : Hid (∀ (w' : World), SU W0 w' (kI (m.im.take (j + 1))) → ∃ j' : Nat, Value.int .i64 (j1 : Int) = .int .i64 (j' : Int) ∧ j' + (gk - 1) = m.im.length ∧ SU W0 w' (kI (m.im.take j'))) := fun w' h => ⟨j1, rfl, by omega, by rw [hj1]; exact h⟩
      clear hj1
      go_upto_region 5 with fail
      refine world_anyI (R := fun W => SU W0 W L ∧ W.heap[wr.heap.size]? = some (.cells (imL x).toArray 78 (0, 0)) ∧ wr.heap.size < W.heap.size) ⟨HSU.out.below ((Below.refl _ _).alloc (Nat.le_refl _) _), heap_alloc_new wr _, by rw [alloc_size]; omega⟩ ?_
      obtain ⟨bs, hbs⟩ : ∃ bs, bs = wr.heap.size := ⟨_, rfl⟩
      rw [← hbs]
      have NE : Hid (some bs ≠ some W0.heap.size) := fun e => by have := HSU.out.1.lt; simp only [Option.some.injEq] at e; omega
      clear d0 d1 d2 hbs HSU
      rintro W2 ⟨hs2, hx2, hlt2⟩
      have SU2 := hidI hs2
      have HX2 := hidI hx2
      obtain ⟨e0, e1, e2, ef⟩ := three_of hx2
      obtain ⟨c, v0, st, Wa, Wb, hc, l1, me, l2, es, hcnt, hgr⟩ := hs2.1.bump (1, x.loc) OK1.out
      have hc2 : c ≤ 20000 := by omega
      dsimp only at l1 me l2 es
      have SU3 := hidI (hs2.grown hcnt hgr)
      have X3 : Hid (Wb.heap[bs]? = some (.cells (imL x).toArray 78 (0, 0))) := (hgr.block bs hlt2 NE.out).trans hx2
      have hlt3 : bs < Wb.heap.size := Nat.lt_of_lt_of_le hlt2 hgr.size
      clear hs2 hx2 hcnt hgr hc
      rw [HS.out] at l1 me l2 es
      go_wp2_with fail
      go_region
      all_goals
        clear e0 e1 e2 ef l1 me l2 es
        obtain ⟨e0, e1, e2, ef⟩ := three_of X3.out
        cases kf : (x.first.toList == [42]) with
        | false =>
          have REL := hidI (FIN.out Wb (by rw [KEY.out, kf, if_neg Bool.false_ne_true]; exact SU3.out))
          clear FIN KEY SU3 SU2 X3 HX2
          go_wp2
          go_roundg (gk - 1)
          case rel => exact REL.out
          case measure => omega
        | true =>
          obtain ⟨cc, v1, st1, Wc, Wd, hcc, l1, me, l2, es, hcnt, hgr⟩ := SU3.out.1.bump (3, x.loc) OK3.out
          rw [List.length_append] at hcc
          have hc3 : cc ≤ 20001 := by simp only [List.length_singleton] at hcc; omega
          dsimp only at l1 me l2 es
          rw [HS.out] at l1 me l2 es
          have REL := hidI (FIN.out Wd (by rw [KEY.out, kf, if_pos rfl]; exact SU3.out.grown hcnt hgr))
          clear FIN KEY SU3 SU2 X3 HX2 hcnt hgr hcc
          go_wp2_with fail
          go_region
          all_goals
            go_wp2
            go_roundg (gk - 1)
            case rel => exact REL.out
            case measure => omega
    · have hlti : ¬ (j : Int) < (m.im.length : Int) := by omega
      have hjl : m.im.take j = m.im := List.take_of_length_le (by omega)
      rw [hjl] at HSU
      obtain ⟨c0, c1, c2, c3, c4, cf⟩ := five_of ((HSU.out.2.block w.heap.size (by rw [HS.out]; omega)).trans BOX.out)
      obtain ⟨L1, hL1⟩ : ∃ L, L = kI m.im := ⟨_, rfl⟩
      have HL1 := hidI hL1
      have hLl1 : L1.length ≤ 20000 := by rw [hL1]; have := kI_len m.im; omega
      rw [← hL1] at HSU
      clear hL1 hjl SU1
      go_wp2
      go_loopg [41] m.st.length (fun k i wr => ∃ j : Nat, i = .int .i64 j ∧ j + k = m.st.length ∧ SU W0 wr (L1 ++ kS (m.st.take j)))
      case atStart => exact ⟨0, rfl, by omega, by rw [List.take_zero]; show SU W0 _ (L1 ++ []); rw [List.append_nil]; exact HSU.out⟩
      case round =>
        clear c0 c1 c2 c3 c4 cf HSU
        obtain ⟨j, rfl, hj, hsu⟩ := hrel
        have HSU := hidI hsu
        clear hsu
        by_cases hlt : j < m.st.length
        · have hlti : (j : Int) < (m.st.length : Int) := by omega
          obtain ⟨x, hx⟩ : ∃ x, m.st[j]? = some x := ⟨_, List.getElem?_eq_getElem hlt⟩
          obtain ⟨b, off, rfl, hc⟩ := (RS.out.later HSU.out.2).get hx
          have KEY := hidI (kS_more hx)
          have OK1 : Hid (RoleOk (1, x.name)) := ⟨by show (1 : Int) ≤ 1; omega, by show (1 : Int) ≤ 3; omega, HNO.out.2.1 x (List.mem_of_getElem? hx)⟩
          have d0 := hc 0 _ rfl
          have d1 := hc 1 _ rfl
          have d2 := hc 2 _ rfl
          simp only [Nat.add_zero] at d0
          clear hc hx
          obtain ⟨L, hL⟩ : ∃ L, L = L1 ++ kS (m.st.take j) := ⟨_, rfl⟩
          have HL := hidI hL
          have hLl : L.length ≤ 40000 := by rw [hL, List.length_append]; have := kS_len (m.st.take j); rw [List.length_take] at this; omega
          rw [← hL] at HSU
          clear hL
          obtain ⟨j1, hj1⟩ : ∃ j1, j1 = j + 1 := ⟨_, rfl⟩
          have ej : (j : Int) + 1 = (j1 : Int) := by omega
          have FIN : Hid (∀ (w' : World), SU W0 w' (L1 ++ kS (m.st.take (j + 1))) → ∃ j' : Nat, Value.int .i64 (j1 : Int) = .int .i64 (j' : Int) ∧ j' + (gk - 1) = m.st.length ∧ SU W0 w' (L1 ++ kS (m.st.take j'))) := fun w' h => ⟨j1, rfl, by omega, by rw [hj1]; exact h⟩
          clear hj1
          go_upto_region 12 with fail
          refine world_anyI (R := fun W => SU W0 W L ∧ W.heap[wr.heap.size]? = some (.cells (smL x).toArray 85 (0, 0)) ∧ wr.heap.size < W.heap.size) ⟨HSU.out.below ((Below.refl _ _).alloc (Nat.le_refl _) _), heap_alloc_new wr _, by rw [alloc_size]; omega⟩ ?_
          obtain ⟨bs, hbs⟩ : ∃ bs, bs = wr.heap.size := ⟨_, rfl⟩
          rw [← hbs]
          clear d0 d1 d2 hbs HSU
          rintro W2 ⟨hs2, hx2, hlt2⟩
          have SU2 := hidI hs2
          have HX2 := hidI hx2
          obtain ⟨e0, e1, e2, ef⟩ := three_of hx2
          clear hs2 hx2
          go_wp2_with fail
          refine (declares_any x _).mono ?_
          rintro e W3 ⟨rfl, hb3⟩
          have SU3 := hidI (SU2.out.below hb3)
          have X3 := hidI ((hb3.block bs hlt2).trans HX2.out)
          clear e0 e1 e2 ef hb3 SU2 HX2 hlt2
          obtain ⟨e0, e1, e2, ef⟩ := three_of X3.out
          have hlt3 := (Array.getElem?_eq_some_iff.1 X3.out).1
          cases hd : decI x with
          | false =>
            have REL := hidI (FIN.out W3 (by rw [KEY.out, hd, if_neg Bool.false_ne_true, ← HL.out]; exact SU3.out))
            clear FIN KEY SU3 X3 HL
            go_wp2
            go_roundg (gk - 1)
            case rel => exact REL.out
            case measure => omega
          | true =>
            obtain ⟨cc, v1, st1, Wc, Wd, hcc, l1, me, l2, es, hcnt, hgr⟩ := SU3.out.1.bump (1, x.name) OK1.out
            have hc3 : cc ≤ 40000 := by omega
            dsimp only at l1 me l2 es
            rw [HS.out] at l1 me l2 es
            have REL := hidI (FIN.out Wd (by rw [KEY.out, hd, if_pos rfl, ← List.append_assoc, ← HL.out]; exact SU3.out.grown hcnt hgr))
            clear FIN KEY SU3 X3 HL hcnt hgr hcc
            go_wp2_with fail
            go_region
            all_goals
              go_wp2
              go_roundg (gk - 1)
              case rel => exact REL.out
              case measure => omega
        · have hlti : ¬ (j : Int) < (m.st.length : Int) := by omega
          have hjl : m.st.take j = m.st := List.take_of_length_le (by omega)
          rw [hjl] at HSU
          obtain ⟨c0, c1, c2, c3, c4, cf⟩ := five_of ((HSU.out.2.block w.heap.size (by rw [HS.out]; omega)).trans BOX.out)
          obtain ⟨L2, hL2⟩ : ∃ L, L = L1 ++ kS m.st := ⟨_, rfl⟩
          have HL2 := hidI hL2
          have hLl2 : L2.length ≤ 40000 := by rw [hL2, List.length_append]; have := kS_len m.st; omega
          rw [← hL2] at HSU
          clear hL2 hjl
          go_wp2
          go_loopg [59] m.ep.length (fun k i wr => ∃ j : Nat, i = .int .i64 j ∧ j + k = m.ep.length ∧ SU W0 wr (L2 ++ kE (m.ep.take j)))
          case atStart => exact ⟨0, rfl, by omega, by rw [List.take_zero]; show SU W0 _ (L2 ++ []); rw [List.append_nil]; exact HSU.out⟩
          case round =>
            clear c0 c1 c2 c3 c4 cf HSU
            obtain ⟨j, rfl, hj, hsu⟩ := hrel
            have HSU := hidI hsu
            clear hsu
            by_cases hlt : j < m.ep.length
            · have hlti : (j : Int) < (m.ep.length : Int) := by omega
              obtain ⟨x, hx⟩ : ∃ x, m.ep[j]? = some x := ⟨_, List.getElem?_eq_getElem hlt⟩
              obtain ⟨b, off, rfl, hc⟩ := (RE.out.later HSU.out.2).get hx
              have KEY := hidI (kE_more hx)
              have OK1 : Hid (RoleOk (2, x.name)) := ⟨by show (1 : Int) ≤ 2; omega, by show (2 : Int) ≤ 3; omega, (HNO.out.2.2.1 x (List.mem_of_getElem? hx)).1⟩
              have d0 := hc 0 _ rfl
              have d1 := hc 1 _ rfl
              have d2 := hc 2 _ rfl
              have d3 := hc 3 _ rfl
              simp only [Nat.add_zero] at d0
              clear hc hx
              obtain ⟨L, hL⟩ : ∃ L, L = L2 ++ kE (m.ep.take j) := ⟨_, rfl⟩
              have HL := hidI hL
              have hLl : L.length ≤ 60000 := by rw [hL, List.length_append]; have := kE_len (m.ep.take j); rw [List.length_take] at this; omega
              rw [← hL] at HSU
              clear hL
              obtain ⟨j1, hj1⟩ : ∃ j1, j1 = j + 1 := ⟨_, rfl⟩
              have ej : (j : Int) + 1 = (j1 : Int) := by omega
              have FIN : Hid (∀ (w' : World), SU W0 w' (L2 ++ kE (m.ep.take (j + 1))) → ∃ j' : Nat, Value.int .i64 (j1 : Int) = .int .i64 (j' : Int) ∧ j' + (gk - 1) = m.ep.length ∧ SU W0 w' (L2 ++ kE (m.ep.take j'))) := fun w' h => ⟨j1, rfl, by omega, by rw [hj1]; exact h⟩
              clear hj1
              go_upto_region 18 with fail
              refine world_anyI (R := fun W => SU W0 W L ∧ W.heap[wr.heap.size]? = some (.cells (epL x).toArray 50 (0, 0)) ∧ wr.heap.size < W.heap.size) ⟨HSU.out.below ((Below.refl _ _).alloc (Nat.le_refl _) _), heap_alloc_new wr _, by rw [alloc_size]; omega⟩ ?_
              obtain ⟨bs, hbs⟩ : ∃ bs, bs = wr.heap.size := ⟨_, rfl⟩
              rw [← hbs]
              clear d0 d1 d2 d3 hbs HSU
              rintro W2 ⟨hs2, hx2, hlt2⟩
              have SU3 := hidI hs2
              obtain ⟨e0, e1, e2, e3, ef⟩ := four_of hx2
              clear hs2 hx2
              cases hd : (x.kind == 3) with
              | true =>
                have REL := hidI (FIN.out W2 (by rw [KEY.out, hd, if_pos rfl, ← HL.out]; exact SU3.out))
                clear FIN KEY SU3 HL
                go_wp2
                go_roundg (gk - 1)
                case rel => exact REL.out
                case measure => omega
              | false =>
                obtain ⟨cc, v1, st1, Wc, Wd, hcc, l1, me, l2, es, hcnt, hgr⟩ := SU3.out.1.bump (2, x.name) OK1.out
                have hc3 : cc ≤ 60000 := by omega
                dsimp only at l1 me l2 es
                rw [HS.out] at l1 me l2 es
                have REL := hidI (FIN.out Wd (by rw [KEY.out, hd, if_neg Bool.false_ne_true, ← List.append_assoc, ← HL.out]; exact SU3.out.grown hcnt hgr))
                clear FIN KEY SU3 HL hcnt hgr hcc
                go_wp2_with fail
                go_region
                all_goals
                  go_wp2
                  go_roundg (gk - 1)
                  case rel => exact REL.out
                  case measure => omega
            · have hlti : ¬ (j : Int) < (m.ep.length : Int) := by omega
              have hjl : m.ep.take j = m.ep := List.take_of_length_le (by omega)
              rw [hjl, HL2.out, HL1.out] at HSU
              go_wp2
              go_ret
              refine ⟨_, rfl, ?_, HB0.out.trans (HSU.out.2.mono (by rw [HS.out]; omega)), by omega⟩
              have := HSU.out.1
              rw [HS.out] at this
              exact this
end Go.Proofs.Ytcmpakdfebeklaa
namespace Go.Proofs.Ytcmpakdfebeklaa
open Go.RowKit Go.PlainAid Go.Sort
open Go.ChangeMaps (setBlock)

def twK (L : List (Int × ByteArray)) (r : Int) : Prop := ∃ n, 2 ≤ cnt L (r, n)
def TwOut (L : List (Int × ByteArray)) (r : Int) (e : Ending) : Prop := ∃ b : Bool, e = .returned (.bool b) ∧ (b = true ↔ twK L r)
def RgW (W0 W : World) (b it : Nat) (es : Array MapEntry) (clock : Nat) (r : Int) (k : Nat) : Prop :=
  ∃ seen : Array Nat, W.heap[it]? = some (.mapIter (some b) clock seen clock) ∧ W.heap[b]? = some (.map es clock) ∧ (leftOf es seen).size = k ∧ Below W0.heap.size W0 W ∧
    ∀ y ∈ es.toList, seen.contains y.born = true → ∀ n c, y.key = mkK (r, n) → y.val = .int .i64 c → c ≤ 1
theorem leftOf_less {es : Array MapEntry} {seen : Array Nat} {y : MapEntry} (hy : y ∈ (leftOf es seen).toList) : (leftOf es (seen.push y.born)).size < (leftOf es seen).size := by
  have e : (leftOf es (seen.push y.born)).toList = (leftOf es seen).toList.filter (fun x => !(x.born == y.born)) := by
    simp only [leftOf, Array.toList_filter, List.filter_filter, Array.contains_push]
    refine List.filter_congr fun x _ => ?_
    rw [Bool.not_or, Bool.and_comm]
  rw [← Array.length_toList, ← Array.length_toList, e, List.length_filter_lt_length_iff_exists]
  exact ⟨y, hy, by simp⟩
theorem born_inj {l : List MapEntry} (h : (l.map (·.born)).Nodup) {x y : MapEntry} (hx : x ∈ l) (hy : y ∈ l) (e : x.born = y.born) : x = y := by
  obtain ⟨i, hi, rfl⟩ := List.mem_iff_getElem.1 hx
  obtain ⟨j, hj, rfl⟩ := List.mem_iff_getElem.1 hy
  have : i = j := (List.getElem_inj (xs := l.map (·.born)) (h₀ := by rw [List.length_map]; exact hi) (h₁ := by rw [List.length_map]; exact hj) h).1 (by rw [List.getElem_map, List.getElem_map]; exact e)
  subst this
  rfl
set_option maxRecDepth 100000 in
set_option maxHeartbeats 3200000 in
theorem hasTwice_any (b : Nat) (L : List (Int × ByteArray)) (r : Int) (w : World) (h : CntW w b L) :
    Calls Try.prog 40 #[.map (some b), .int .i64 r] w fun e w' => TwOut L r e ∧ Below w.heap.size w w' := by
  obtain ⟨es, clock, hb, hc, hR⟩ := h
  have hrr := run_range_map (P := Try.prog) w 70 103 3 b es clock Try.underlying70 hb
  have HB := hidI hb
  have HC := hidI hc
  have HR := hidI hR
  clear hb hc hR
  go_enter Try.func40, Try.ntmps40
  go_wp2
  obtain ⟨it, hit⟩ : ∃ it, it = w.heap.size := ⟨_, rfl⟩
  have START : Hid (RgW w (w.alloc (.mapIter (some b) clock #[] clock)) b it es clock r (leftOf es #[]).size) := ⟨#[], by rw [hit]; exact heap_alloc_new w _, (heap_alloc_old _ _ (Array.getElem?_eq_some_iff.1 HB.out).1).trans HB.out, rfl, (Below.refl _ _).alloc (Nat.le_refl _) _, fun y _ h => by simp at h⟩
  have HIT : Hid (w.heap.size ≤ it) := Nat.le_of_eq hit.symm
  rw [← hit]
  clear hit
  go_loopg [6] (leftOf es #[]).size (fun k u wr => RgW w wr b it es clock r k)
  case atStart => exact START.out
  case round =>
    clear START
    obtain ⟨seen, hi, hb, hk, hbel, hno⟩ := hrel
    have HI := hidI hi
    have HB1 := hidI hb
    have HK := hidI hk
    have HBE := hidI hbel
    have HNO := hidI hno
    rcases run_next_at (P := Try.prog) wr 0 it b clock clock seen es clock hi hb HC.out.1.1 (Nat.le_refl _) with ⟨h0, hrun⟩ | ⟨y, hy, w1, hw1, hrun⟩
    · have HV : Hid (¬ twK L r) := fun ⟨n, hn⟩ => by
        obtain ⟨y, hy, e1, e2⟩ := cntE_has HC.out (cnt_pos.1 (Nat.lt_of_lt_of_le (by decide) hn))
        have hs : seen.contains y.born = true := by
          cases hs : seen.contains y.born with
          | true => rfl
          | false =>
            have : y ∈ (leftOf es seen).toList := by
              simp only [leftOf, Array.toList_filter, List.mem_filter]
              exact ⟨hy, by rw [hs]; rfl⟩
            rw [Array.eq_empty_of_size_eq_zero h0] at this
            cases this
        have := HNO.out y hy hs n _ e1 e2
        have h2 : (2 : Int) ≤ (cnt L (r, n) : Nat) := by omega
        unfold cnt at h2
        omega
      clear hi hb hk hbel hno h0
      go_wp2
      go_ret
      exact ⟨⟨false, rfl, ⟨fun k => (by cases k), fun k => absurd k HV.out⟩⟩, HBE.out⟩
    · have hym : y ∈ es.toList := by
        simp only [leftOf, Array.toList_filter, List.mem_filter] at hy
        exact hy.1
      obtain ⟨jy, hjy, hjy2⟩ := List.mem_iff_getElem.1 hym
      obtain ⟨z, hz, e1, e2⟩ := cntE_get HC.out (j := jy) (y := y) (by rw [List.getElem?_eq_getElem hjy, hjy2])
      have LESS := hidI (leftOf_less hy)
      have hh : w1.heap = wr.heap := by rcases hw1 with rfl | rfl <;> rfl
      have hne : b ≠ it := fun e => by rw [e, hi] at hb; cases hb
      have hi1 : w1.heap[it]? = some (.mapIter (some b) clock seen clock) := by rw [hh]; exact hi
      have n1 := (MapKept.heap_set (o' := .mapIter (some b) clock (seen.push y.born) clock) hi1).1
      have n2 := (MapKept.heap_set (o' := .mapIter (some b) clock (seen.push y.born) clock) hi1).2
      have hB1 : Below w.heap.size w (setBlock w1 it (.mapIter (some b) clock (seen.push y.born) clock)) := by
        have h1 : Below w.heap.size w w1 := by rcases hw1 with rfl | rfl; exact hbel; exact hbel.drew
        refine ⟨h1.os, h1.tape, h1.output, by simpa [setBlock] using h1.size, fun k hk' => ?_⟩
        have hki : k ≠ it := by have := HIT.out; omega
        exact (n2 k hki).trans (h1.block k hk')
      have hen := run_entry_at (P := Try.prog) (setBlock w1 it (.mapIter (some b) clock (seen.push y.born) clock)) it b clock seen es clock y n1 ((n2 b hne).trans (by rw [hh]; exact hb)) hym HC.out.1.2.1
      have NB := hidI ((n2 b hne).trans (show w1.heap[b]? = some (.map es clock) by rw [hh]; exact hb))
      have NI : (setBlock w1 it (.mapIter (some b) clock (seen.push y.born) clock)).heap[it]? = some (.mapIter (some b) clock (seen.push y.born) clock) := n1
      have NBE := hidI hB1
      change (setBlock w1 it (.mapIter (some b) clock (seen.push y.born) clock)).heap[b]? = _ at NB
      generalize setBlock w1 it (.mapIter (some b) clock (seen.push y.born) clock) = Wn at hrun hen NB NI NBE
      rw [e1, e2] at hrun hen
      have NOM : Hid ((z.1 = r → cnt L z ≤ 1) → ∀ y' ∈ es.toList, (seen.push y.born).contains y'.born = true → ∀ n c, y'.key = mkK (r, n) → y'.val = .int .i64 c → c ≤ 1) := fun hzr y' hy' hs n c k1 k2 => by
        rw [Array.contains_push, Bool.or_eq_true] at hs
        rcases hs with hs | hs
        · exact HNO.out y' hy' hs n c k1 k2
        · have hyy := born_inj HC.out.1.2.1 hy' hym (eq_of_beq hs)
          rw [hyy, e1] at k1
          rw [hyy, e2] at k2
          have := mkK_inj _ _ k1
          have h1 := hzr (by rw [this])
          simp only [Value.int.injEq, true_and] at k2
          unfold cnt at h1
          omega
      obtain ⟨r0, n0⟩ := z
      have hcl := cnt_le L (r0, n0)
      obtain ⟨c, hcv⟩ : ∃ c : Nat, c = cnt L (r0, n0) := ⟨_, rfl⟩
      change (Instr.next (.pointer (some ⟨it, 0, none⟩)) false 0).run Try.prog wr = .ok (.tuple #[.bool true, .agg #[.int .i64 r0, .string n0], .int .i64 (cnt L (r0, n0) : Nat)]) Wn at hrun
      change (Instr.entry (.pointer (some ⟨it, 0, none⟩))).run Try.prog Wn = .ok (.tuple #[.agg #[.int .i64 r0, .string n0], .int .i64 (cnt L (r0, n0) : Nat)]) Wn at hen
      rw [← hcv] at hrun hen hcl
      have HCV := hidI hcv
      clear hcv hi hb hk hbel hno n1 n2 hB1 hi1 hh hw1 hjy2 hjy e1 e2 hz hym hy
      have FIN : Hid ((r0 = r → c ≤ 1) → RgW w (Wn.alloc (.cells #[.int .i64 r0, .string n0] 103)) b it es clock r (leftOf es (seen.push y.born)).size) := fun hq => by
        have hbl := (Array.getElem?_eq_some_iff.1 NB).1
        have hil := (Array.getElem?_eq_some_iff.1 NI).1
        exact ⟨_, (heap_alloc_old _ _ hil).trans NI, (heap_alloc_old _ _ hbl).trans NB, rfl, NBE.out.alloc NBE.out.size _, NOM.out (by rw [← HCV.out]; exact hq)⟩
      cases q1 : (r0 == r) with
      | false =>
        have REL := hidI (FIN.out (fun e => by rw [e] at q1; simp at q1))
        clear FIN NOM
        go_wp2
        go_roundg ((leftOf es (seen.push y.born)).size)
        case rel => exact REL.out
        case measure => have := LESS.out; have := HK.out; omega
      | true =>
        by_cases q2 : 1 < c
        · have q2i : (1 : Int) < (c : Int) := by omega
          have HV : Hid (twK L r) := ⟨n0, by rw [← eq_of_beq q1, ← HCV.out]; omega⟩
          clear FIN NOM
          go_wp2
          go_ret
          exact ⟨⟨true, rfl, ⟨fun _ => HV.out, fun _ => rfl⟩⟩, NBE.out.alloc NBE.out.size _⟩
        · have q2i : ¬ (1 : Int) < (c : Int) := by omega
          have REL := hidI (FIN.out (fun _ => by omega))
          clear FIN NOM
          go_wp2
          go_roundg ((leftOf es (seen.push y.born)).size)
          case rel => exact REL.out
          case measure => have := LESS.out; have := HK.out; omega
end Go.Proofs.Ytcmpakdfebeklaa
namespace Go.Proofs.Ytcmpakdfebeklaa
open Go.RowKit Go.PlainAid Go.Sort

def hB (L : List (Int × ByteArray)) (r : Int) (n : ByteArray) : Bool := decide (0 < cnt L (r, n))
def unI (L : List (Int × ByteArray)) (x : Ep) : Bool := (x.kind == 1 && !(x.loc.toList == dN)) && !hB L 1 x.loc
def mxI (L : List (Int × ByteArray)) (x : Ex) : Bool := (x.kind == 4 || x.kind == 5) && !hB L 3 x.name
def seI (L : List (Int × ByteArray)) (x : Ep) : Bool := x.kind == 1 && hB L 3 x.loc
def ssI (L : List (Int × ByteArray)) (x : Sm) : Bool := x.kind == 3 && hB L 3 x.name
def sxI (L : List (Int × ByteArray)) (x : Ex) : Bool := (x.kind == 2 || x.kind == 3) && hB L 3 x.name
theorem any_first {α : Type} {f : α → Bool} {l : List α} {j : Nat} {x : α} (h : l[j]? = some x) (hf : f x = true) : l.any f = true := List.any_eq_true.2 ⟨x, List.mem_of_getElem? h, hf⟩
theorem any_snoc {α : Type} {f : α → Bool} {l : List α} {j : Nat} {x : α} (h : l[j]? = some x) (h0 : (l.take j).any f = false) (hf : f x = false) : (l.take (j + 1)).any f = false := by
  rw [take_snoc h, List.any_append, h0, Bool.false_or, List.any_cons, hf]
  rfl
def RoleN (r : Int) (n : ByteArray) : Prop := RoleOk (r, n)
theorem roleN {r : Int} {n : ByteArray} (h1 : 1 ≤ r) (h3 : r ≤ 3) (hn : n.size ≤ maxLen) : RoleOk (r, n) := ⟨h1, h3, hn⟩
set_option maxRecDepth 100000 in
set_option maxHeartbeats 3200000 in
theorem hasUnbound_any (b : Nat) (L : List (Int × ByteArray)) (a : Option Addr) (cap : Nat) (l : List Ep) (w : World) (h : CntW w b L) (hr : RowAt w a epL 4 l) (hl : l.length ≤ 10000) (hn : ∀ x ∈ l, x.loc.size ≤ maxLen) :
    Calls Try.prog 41 #[.map (some b), .slice a l.length cap] w fun e w' => e = .returned (.bool (l.any (unI L))) ∧ Below w.heap.size w w' := by
  have CW := hidI h
  have HR := hidI hr
  have HN := hidI hn
  clear h hr hn
  go_enter Try.func41, Try.ntmps41
  go_wp2
  go_loopg [9] l.length (fun k i wr => ∃ j : Nat, i = .int .i64 j ∧ j + k = l.length ∧ (l.take j).any (unI L) = false ∧ Below w.heap.size w wr)
  case atStart => exact ⟨0, rfl, by omega, rfl, Below.refl _ _⟩
  case round =>
    obtain ⟨j, rfl, hj, hno, hbe⟩ := hrel
    have HNO := hidI hno
    have HBE := hidI hbe
    clear hno hbe
    by_cases hlt : j < l.length
    · have hlti : (j : Int) < (l.length : Int) := by omega
      obtain ⟨x, hx⟩ : ∃ x, l[j]? = some x := ⟨_, List.getElem?_eq_getElem hlt⟩
      obtain ⟨bb, off, rfl, hc⟩ := (HR.out.later HBE.out).get hx
      have HX := hidI hx
      have NS := hidI (HN.out x (List.mem_of_getElem? HX.out))
      have d0 := hc 0 _ rfl
      have d1 := hc 1 _ rfl
      have d2 := hc 2 _ rfl
      have d3 := hc 3 _ rfl
      simp only [Nat.add_zero] at d0
      clear hc hx
      obtain ⟨j1, hj1⟩ : ∃ j1, j1 = j + 1 := ⟨_, rfl⟩
      have ej : (j : Int) + 1 = (j1 : Int) := by omega
      have FIN : Hid (∀ w' : World, unI L x = false → Below wr.heap.size wr w' → ∃ j' : Nat, Value.int .i64 (j1 : Int) = .int .i64 (j' : Int) ∧ j' + (gk - 1) = l.length ∧ (l.take j').any (unI L) = false ∧ Below w.heap.size w w') := fun w' h1 h2 => ⟨j1, rfl, by omega, by rw [hj1]; exact any_snoc HX.out HNO.out h1, HBE.out.trans (h2.mono HBE.out.size)⟩
      clear hj1
      go_upto_region 4 with fail
      refine world_anyI (R := fun W => Below wr.heap.size wr W ∧ W.heap[wr.heap.size]? = some (.cells (epL x).toArray 50 (0, 0))) ⟨(Below.refl _ _).alloc (Nat.le_refl _) _, heap_alloc_new wr _⟩ ?_
      have CWR := hidI (CW.out.kept ((HBE.out.block _ CW.out.lt)))
      obtain ⟨bs, hbs⟩ : ∃ bs, bs = wr.heap.size := ⟨_, rfl⟩
      rw [← hbs]
      have HBS := hidI hbs
      clear d0 d1 d2 d3 hbs
      rintro W2 ⟨hb2, hx2⟩
      rw [HBS.out] at hb2
      have HB2 := hidI hb2
      have CW2 := hidI (CWR.out.kept (hb2.block _ CWR.out.lt))
      obtain ⟨e0, e1, e2, e3, ef⟩ := four_of hx2
      have hlt2 := (Array.getElem?_eq_some_iff.1 hx2).1
      clear hb2 hx2
      cases k1 : (x.kind == 1) with
      | true =>
        cases kd : (x.loc.toList == dN) with
        | true =>
          have REL := hidI (FIN.out W2 (by rw [unI, k1, kd]; rfl) HB2.out)
          clear FIN
          go_wp2
          go_roundg (gk - 1)
          case rel => exact REL.out
          case measure => omega
        | false =>
          cases hv : hB L 1 x.loc with
          | true =>
            have REL := hidI (FIN.out W2 (by rw [unI, k1, kd, hv]; rfl) HB2.out)
            clear FIN
            go_wp2_with (first | (go_at_call 69; refine (has_any b L 1 x.loc _ CW2.out (roleN (by decide) (by decide) NS.out)).mono ?_; rintro e w' ⟨rfl, hw⟩; rw [hw]; clear hw w'; change hB L 1 x.loc = _ at hv; rw [show decide (0 < cnt L (1, x.loc)) = hB L 1 x.loc from rfl, hv]))
            go_roundg (gk - 1)
            case rel => exact REL.out
            case measure => omega
          | false =>
            have HV : Hid (l.any (unI L) = true) := any_first HX.out (by rw [unI, k1, kd, hv]; rfl)
            clear FIN
            go_wp2_with (first | (go_at_call 69; refine (has_any b L 1 x.loc _ CW2.out (roleN (by decide) (by decide) NS.out)).mono ?_; rintro e w' ⟨rfl, hw⟩; rw [hw]; clear hw w'; change hB L 1 x.loc = _ at hv; rw [show decide (0 < cnt L (1, x.loc)) = hB L 1 x.loc from rfl, hv]))
            go_ret
            exact ⟨ret_bool HV.out.symm, HBE.out.trans (HB2.out.mono HBE.out.size)⟩
      | false =>
        have REL := hidI (FIN.out W2 (by rw [unI, k1]; rfl) HB2.out)
        clear FIN
        go_wp2
        go_roundg (gk - 1)
        case rel => exact REL.out
        case measure => omega
    · have hlti : ¬ (j : Int) < (l.length : Int) := by omega
      have hjl : l.take j = l := List.take_of_length_le (by omega)
      rw [hjl] at HNO
      go_wp2
      go_ret
      exact ⟨ret_bool HNO.out.symm, HBE.out⟩
set_option maxRecDepth 100000 in
set_option maxHeartbeats 3200000 in
theorem hasMember_any (b : Nat) (L : List (Int × ByteArray)) (a : Option Addr) (cap : Nat) (l : List Ex) (w : World) (h : CntW w b L) (hr : RowAt w a exL 6 l) (hl : l.length ≤ 10000) (hn : ∀ x ∈ l, x.name.size ≤ maxLen) :
    Calls Try.prog 43 #[.map (some b), .slice a l.length cap] w fun e w' => e = .returned (.bool (l.any (mxI L))) ∧ Below w.heap.size w w' := by
  have CW := hidI h
  have HR := hidI hr
  have HN := hidI hn
  clear h hr hn
  go_enter Try.func43, Try.ntmps43
  go_wp2
  go_loopg [9] l.length (fun k i wr => ∃ j : Nat, i = .int .i64 j ∧ j + k = l.length ∧ (l.take j).any (mxI L) = false ∧ Below w.heap.size w wr)
  case atStart => exact ⟨0, rfl, by omega, rfl, Below.refl _ _⟩
  case round =>
    obtain ⟨j, rfl, hj, hno, hbe⟩ := hrel
    have HNO := hidI hno
    have HBE := hidI hbe
    clear hno hbe
    by_cases hlt : j < l.length
    · have hlti : (j : Int) < (l.length : Int) := by omega
      obtain ⟨x, hx⟩ : ∃ x, l[j]? = some x := ⟨_, List.getElem?_eq_getElem hlt⟩
      obtain ⟨bb, off, rfl, hc⟩ := (HR.out.later HBE.out).get hx
      have HX := hidI hx
      have NS := hidI (HN.out x (List.mem_of_getElem? HX.out))
      have d0 := hc 0 _ rfl
      have d1 := hc 1 _ rfl
      have d2 := hc 2 _ rfl
      have d3 := hc 3 _ rfl
      have d4 := hc 4 _ rfl
      have d5 := hc 5 _ rfl
      simp only [Nat.add_zero] at d0
      clear hc hx
      obtain ⟨j1, hj1⟩ : ∃ j1, j1 = j + 1 := ⟨_, rfl⟩
      have ej : (j : Int) + 1 = (j1 : Int) := by omega
      have FIN : Hid (∀ w' : World, mxI L x = false → Below wr.heap.size wr w' → ∃ j' : Nat, Value.int .i64 (j1 : Int) = .int .i64 (j' : Int) ∧ j' + (gk - 1) = l.length ∧ (l.take j').any (mxI L) = false ∧ Below w.heap.size w w') := fun w' h1 h2 => ⟨j1, rfl, by omega, by rw [hj1]; exact any_snoc HX.out HNO.out h1, HBE.out.trans (h2.mono HBE.out.size)⟩
      clear hj1
      go_upto_region 4 with fail
      refine world_anyI (R := fun W => Below wr.heap.size wr W ∧ W.heap[wr.heap.size]? = some (.cells (exL x).toArray 83 (0, 0))) ⟨(Below.refl _ _).alloc (Nat.le_refl _) _, heap_alloc_new wr _⟩ ?_
      have CWR := hidI (CW.out.kept ((HBE.out.block _ CW.out.lt)))
      obtain ⟨bs, hbs⟩ : ∃ bs, bs = wr.heap.size := ⟨_, rfl⟩
      rw [← hbs]
      have HBS := hidI hbs
      clear d0 d1 d2 d3 d4 d5 hbs
      rintro W2 ⟨hb2, hx2⟩
      rw [HBS.out] at hb2
      have HB2 := hidI hb2
      have CW2 := hidI (CWR.out.kept (hb2.block _ CWR.out.lt))
      obtain ⟨e0, e1, e2, e3, e4, e5, ef⟩ := six_of hx2
      have hlt2 := (Array.getElem?_eq_some_iff.1 hx2).1
      clear hb2 hx2
      cases k4 : (x.kind == 4) with
      | true =>
        cases hv : hB L 3 x.name with
        | true =>
          have REL := hidI (FIN.out W2 (by rw [mxI, k4, hv]; rfl) HB2.out)
          clear FIN
          go_wp2_with (first | (go_at_call 69; refine (has_any b L 3 x.name _ CW2.out (roleN (by decide) (by decide) NS.out)).mono ?_; rintro e w' ⟨rfl, hw⟩; rw [hw]; clear hw w'; change hB L 3 x.name = _ at hv; rw [show decide (0 < cnt L (3, x.name)) = hB L 3 x.name from rfl, hv]))
          go_roundg (gk - 1)
          case rel => exact REL.out
          case measure => omega
        | false =>
          have HV : Hid (l.any (mxI L) = true) := any_first HX.out (by rw [mxI, k4, hv]; rfl)
          clear FIN
          go_wp2_with (first | (go_at_call 69; refine (has_any b L 3 x.name _ CW2.out (roleN (by decide) (by decide) NS.out)).mono ?_; rintro e w' ⟨rfl, hw⟩; rw [hw]; clear hw w'; change hB L 3 x.name = _ at hv; rw [show decide (0 < cnt L (3, x.name)) = hB L 3 x.name from rfl, hv]))
          go_ret
          exact ⟨ret_bool HV.out.symm, HBE.out.trans (HB2.out.mono HBE.out.size)⟩
      | false =>
        cases k5 : (x.kind == 5) with
        | true =>
          cases hv : hB L 3 x.name with
          | true =>
            have REL := hidI (FIN.out W2 (by rw [mxI, k4, k5, hv]; rfl) HB2.out)
            clear FIN
            go_wp2_with (first | (go_at_call 69; refine (has_any b L 3 x.name _ CW2.out (roleN (by decide) (by decide) NS.out)).mono ?_; rintro e w' ⟨rfl, hw⟩; rw [hw]; clear hw w'; change hB L 3 x.name = _ at hv; rw [show decide (0 < cnt L (3, x.name)) = hB L 3 x.name from rfl, hv]))
            go_roundg (gk - 1)
            case rel => exact REL.out
            case measure => omega
          | false =>
            have HV : Hid (l.any (mxI L) = true) := any_first HX.out (by rw [mxI, k4, k5, hv]; rfl)
            clear FIN
            go_wp2_with (first | (go_at_call 69; refine (has_any b L 3 x.name _ CW2.out (roleN (by decide) (by decide) NS.out)).mono ?_; rintro e w' ⟨rfl, hw⟩; rw [hw]; clear hw w'; change hB L 3 x.name = _ at hv; rw [show decide (0 < cnt L (3, x.name)) = hB L 3 x.name from rfl, hv]))
            go_ret
            exact ⟨ret_bool HV.out.symm, HBE.out.trans (HB2.out.mono HBE.out.size)⟩
        | false =>
          have REL := hidI (FIN.out W2 (by rw [mxI, k4, k5]; rfl) HB2.out)
          clear FIN
          go_wp2
          go_roundg (gk - 1)
          case rel => exact REL.out
          case measure => omega
    · have hlti : ¬ (j : Int) < (l.length : Int) := by omega
      have hjl : l.take j = l := List.take_of_length_le (by omega)
      rw [hjl] at HNO
      go_wp2
      go_ret
      exact ⟨ret_bool HNO.out.symm, HBE.out⟩
set_option maxRecDepth 100000 in
set_option maxHeartbeats 6400000 in
theorem hasSpace_any (b : Nat) (L : List (Int × ByteArray)) (V : Sv) (m : Md) (w : World) (h : CntW w b L) (hE : RowAt w V.ep.a epL 4 m.ep) (hS : RowAt w V.st.a smL 3 m.st) (hX : RowAt w V.ex.a exL 6 m.ex) (lE : m.ep.length ≤ 10000) (lS : m.st.length ≤ 10000) (lX : m.ex.length ≤ 10000) (hn : NameOk m) :
    Calls Try.prog 42 #[.map (some b), modD V m] w fun e w' => e = .returned (.bool (m.ep.any (seI L) || (m.st.any (ssI L) || m.ex.any (sxI L)))) ∧ Below w.heap.size w w' := by
  obtain ⟨a2, ha2⟩ : ∃ a, V.ep.a = a := ⟨_, rfl⟩
  obtain ⟨a3, ha3⟩ : ∃ a, V.st.a = a := ⟨_, rfl⟩
  obtain ⟨a4, ha4⟩ : ∃ a, V.ex.a = a := ⟨_, rfl⟩
  unfold modD
  rw [ha2] at hE ⊢
  rw [ha3] at hS ⊢
  rw [ha4] at hX ⊢
  have HB0 : Hid (Below w.heap.size w (w.alloc (.cells #[.slice V.rq.a m.rq.length V.rq.cap, .slice V.im.a m.im.length V.im.cap, .slice a2 m.ep.length V.ep.cap, .slice a3 m.st.length V.st.cap, .slice a4 m.ex.length V.ex.cap] 41))) := (Below.refl _ _).alloc (Nat.le_refl _) _
  have BOX := hidI (heap_alloc_new w (.cells #[.slice V.rq.a m.rq.length V.rq.cap, .slice V.im.a m.im.length V.im.cap, .slice a2 m.ep.length V.ep.cap, .slice a3 m.st.length V.st.cap, .slice a4 m.ex.length V.ex.cap] 41))
  have RE := hidI (hE.later HB0.out)
  have RS := hidI (hS.later HB0.out)
  have RX := hidI (hX.later HB0.out)
  have CW := hidI (h.kept (HB0.out.block _ h.lt))
  have HN := hidI hn
  have HS := hidI (alloc_size w (.cells #[.slice V.rq.a m.rq.length V.rq.cap, .slice V.im.a m.im.length V.im.cap, .slice a2 m.ep.length V.ep.cap, .slice a3 m.st.length V.st.cap, .slice a4 m.ex.length V.ex.cap] 41))
  clear h hE hS hX hn ha2 ha3 ha4
  go_enter Try.func42, Try.ntmps42
  go_upto_region 1 with fail
  obtain ⟨W0, hW0⟩ : ∃ W0, W0 = w.alloc (.cells #[.slice V.rq.a m.rq.length V.rq.cap, .slice V.im.a m.im.length V.im.cap, .slice a2 m.ep.length V.ep.cap, .slice a3 m.st.length V.st.cap, .slice a4 m.ex.length V.ex.cap] 41) := ⟨_, rfl⟩
  rw [← hW0] at BOX HB0 HS RE RS RX CW ⊢
  clear hW0
  obtain ⟨c0, c1, c2, c3, c4, cf⟩ := five_of BOX.out
  go_wp2
  go_loopg [14] m.ep.length (fun k i wr => ∃ j : Nat, i = .int .i64 j ∧ j + k = m.ep.length ∧ (m.ep.take j).any (seI L) = false ∧ Below W0.heap.size W0 wr)
  case atStart => exact ⟨0, rfl, by omega, rfl, Below.refl _ _⟩
  case round =>
    clear c0 c1 c2 c3 c4 cf
    obtain ⟨j, rfl, hj, hno, hbe⟩ := hrel
    have HNO := hidI hno
    have HBE := hidI hbe
    clear hno hbe
    by_cases hlt : j < m.ep.length
    · have hlti : (j : Int) < (m.ep.length : Int) := by omega
      obtain ⟨x, hx⟩ : ∃ x, m.ep[j]? = some x := ⟨_, List.getElem?_eq_getElem hlt⟩
      obtain ⟨bb, off, rfl, hc⟩ := (RE.out.later HBE.out).get hx
      have HX := hidI hx
      have NS := hidI ((HN.out.2.2.1 x (List.mem_of_getElem? HX.out)).2)
      have d0 := hc 0 _ rfl
      have d1 := hc 1 _ rfl
      have d2 := hc 2 _ rfl
      have d3 := hc 3 _ rfl
      simp only [Nat.add_zero] at d0
      clear hc hx
      obtain ⟨j1, hj1⟩ : ∃ j1, j1 = j + 1 := ⟨_, rfl⟩
      have ej : (j : Int) + 1 = (j1 : Int) := by omega
      have FIN : Hid (∀ w' : World, seI L x = false → Below wr.heap.size wr w' → ∃ j' : Nat, Value.int .i64 (j1 : Int) = .int .i64 (j' : Int) ∧ j' + (gk - 1) = m.ep.length ∧ (m.ep.take j').any (seI L) = false ∧ Below W0.heap.size W0 w') := fun w' h1 h2 => ⟨j1, rfl, by omega, by rw [hj1]; exact any_snoc HX.out HNO.out h1, HBE.out.trans (h2.mono HBE.out.size)⟩
      clear hj1
      go_upto_region 4 with fail
      refine world_anyI (R := fun W => Below wr.heap.size wr W ∧ W.heap[wr.heap.size]? = some (.cells (epL x).toArray 50 (0, 0))) ⟨(Below.refl _ _).alloc (Nat.le_refl _) _, heap_alloc_new wr _⟩ ?_
      have CWR := hidI (CW.out.kept ((HBE.out.block _ CW.out.lt)))
      obtain ⟨bs, hbs⟩ : ∃ bs, bs = wr.heap.size := ⟨_, rfl⟩
      rw [← hbs]
      have HBS := hidI hbs
      clear d0 d1 d2 d3 hbs
      rintro W2 ⟨hb2, hx2⟩
      rw [HBS.out] at hb2
      have HB2 := hidI hb2
      have CW2 := hidI (CWR.out.kept (hb2.block _ CWR.out.lt))
      obtain ⟨e0, e1, e2, e3, ef⟩ := four_of hx2
      have hlt2 := (Array.getElem?_eq_some_iff.1 hx2).1
      clear hb2 hx2
      cases k1 : (x.kind == 1) with
      | true =>
        cases hv : hB L 3 x.loc with
        | true =>
          have HV : Hid (m.ep.any (seI L) = true) := any_first HX.out (by rw [seI, k1, hv]; rfl)
          clear FIN
          go_wp2_with (first | (go_at_call 69; refine (has_any b L 3 x.loc _ CW2.out (roleN (by decide) (by decide) NS.out)).mono ?_; rintro e w' ⟨rfl, hw⟩; rw [hw]; clear hw w'; change hB L 3 x.loc = _ at hv; rw [show decide (0 < cnt L (3, x.loc)) = hB L 3 x.loc from rfl, hv]))
          go_ret
          exact ⟨ret_bool (by rw [HV.out]; simp), HB0.out.trans ((HBE.out.trans (HB2.out.mono HBE.out.size)).mono (by rw [HS.out]; omega))⟩
        | false =>
          have REL := hidI (FIN.out W2 (by rw [seI, k1, hv]; rfl) HB2.out)
          clear FIN
          go_wp2_with (first | (go_at_call 69; refine (has_any b L 3 x.loc _ CW2.out (roleN (by decide) (by decide) NS.out)).mono ?_; rintro e w' ⟨rfl, hw⟩; rw [hw]; clear hw w'; change hB L 3 x.loc = _ at hv; rw [show decide (0 < cnt L (3, x.loc)) = hB L 3 x.loc from rfl, hv]))
          go_roundg (gk - 1)
          case rel => exact REL.out
          case measure => omega
      | false =>
        have REL := hidI (FIN.out W2 (by rw [seI, k1]; rfl) HB2.out)
        clear FIN
        go_wp2
        go_roundg (gk - 1)
        case rel => exact REL.out
        case measure => omega
    · have hlti : ¬ (j : Int) < (m.ep.length : Int) := by omega
      have hjl : m.ep.take j = m.ep := List.take_of_length_le (by omega)
      rw [hjl] at HNO
      have NE1 := hidI HNO.out
      obtain ⟨c0, c1, c2, c3, c4, cf⟩ := five_of ((HBE.out.block w.heap.size (by rw [HS.out]; omega)).trans BOX.out)
      clear HNO hjl
      go_wp2
      go_loopg [31] m.st.length (fun k i wr => ∃ j : Nat, i = .int .i64 j ∧ j + k = m.st.length ∧ (m.st.take j).any (ssI L) = false ∧ Below W0.heap.size W0 wr)
      case atStart => exact ⟨0, rfl, by omega, rfl, HBE.out⟩
      case round =>
        clear c0 c1 c2 c3 c4 cf HBE
        obtain ⟨j, rfl, hj, hno, hbe⟩ := hrel
        have HNO := hidI hno
        have HBE := hidI hbe
        clear hno hbe
        by_cases hlt : j < m.st.length
        · have hlti : (j : Int) < (m.st.length : Int) := by omega
          obtain ⟨x, hx⟩ : ∃ x, m.st[j]? = some x := ⟨_, List.getElem?_eq_getElem hlt⟩
          obtain ⟨bb, off, rfl, hc⟩ := (RS.out.later HBE.out).get hx
          have HX := hidI hx
          have NS := hidI (HN.out.2.1 x (List.mem_of_getElem? HX.out))
          have d0 := hc 0 _ rfl
          have d1 := hc 1 _ rfl
          have d2 := hc 2 _ rfl
          simp only [Nat.add_zero] at d0
          clear hc hx
          obtain ⟨j1, hj1⟩ : ∃ j1, j1 = j + 1 := ⟨_, rfl⟩
          have ej : (j : Int) + 1 = (j1 : Int) := by omega
          have FIN : Hid (∀ w' : World, ssI L x = false → Below wr.heap.size wr w' → ∃ j' : Nat, Value.int .i64 (j1 : Int) = .int .i64 (j' : Int) ∧ j' + (gk - 1) = m.st.length ∧ (m.st.take j').any (ssI L) = false ∧ Below W0.heap.size W0 w') := fun w' h1 h2 => ⟨j1, rfl, by omega, by rw [hj1]; exact any_snoc HX.out HNO.out h1, HBE.out.trans (h2.mono HBE.out.size)⟩
          clear hj1
          go_upto_region 10 with fail
          refine world_anyI (R := fun W => Below wr.heap.size wr W ∧ W.heap[wr.heap.size]? = some (.cells (smL x).toArray 85 (0, 0))) ⟨(Below.refl _ _).alloc (Nat.le_refl _) _, heap_alloc_new wr _⟩ ?_
          have CWR := hidI (CW.out.kept ((HBE.out.block _ CW.out.lt)))
          obtain ⟨bs, hbs⟩ : ∃ bs, bs = wr.heap.size := ⟨_, rfl⟩
          rw [← hbs]
          have HBS := hidI hbs
          clear d0 d1 d2 hbs
          rintro W2 ⟨hb2, hx2⟩
          rw [HBS.out] at hb2
          have HB2 := hidI hb2
          have CW2 := hidI (CWR.out.kept (hb2.block _ CWR.out.lt))
          obtain ⟨e0, e1, e2, ef⟩ := three_of hx2
          have hlt2 := (Array.getElem?_eq_some_iff.1 hx2).1
          clear hb2 hx2
          cases k3 : (x.kind == 3) with
          | true =>
            cases hv : hB L 3 x.name with
            | true =>
              have HV : Hid (m.st.any (ssI L) = true) := any_first HX.out (by rw [ssI, k3, hv]; rfl)
              clear FIN
              go_wp2_with (first | (go_at_call 69; refine (has_any b L 3 x.name _ CW2.out (roleN (by decide) (by decide) NS.out)).mono ?_; rintro e w' ⟨rfl, hw⟩; rw [hw]; clear hw w'; change hB L 3 x.name = _ at hv; rw [show decide (0 < cnt L (3, x.name)) = hB L 3 x.name from rfl, hv]))
              go_ret
              exact ⟨ret_bool (by rw [HV.out]; simp), HB0.out.trans ((HBE.out.trans (HB2.out.mono HBE.out.size)).mono (by rw [HS.out]; omega))⟩
            | false =>
              have REL := hidI (FIN.out W2 (by rw [ssI, k3, hv]; rfl) HB2.out)
              clear FIN
              go_wp2_with (first | (go_at_call 69; refine (has_any b L 3 x.name _ CW2.out (roleN (by decide) (by decide) NS.out)).mono ?_; rintro e w' ⟨rfl, hw⟩; rw [hw]; clear hw w'; change hB L 3 x.name = _ at hv; rw [show decide (0 < cnt L (3, x.name)) = hB L 3 x.name from rfl, hv]))
              go_roundg (gk - 1)
              case rel => exact REL.out
              case measure => omega
          | false =>
            have REL := hidI (FIN.out W2 (by rw [ssI, k3]; rfl) HB2.out)
            clear FIN
            go_wp2
            go_roundg (gk - 1)
            case rel => exact REL.out
            case measure => omega
        · have hlti : ¬ (j : Int) < (m.st.length : Int) := by omega
          have hjl : m.st.take j = m.st := List.take_of_length_le (by omega)
          rw [hjl] at HNO
          have NS1 := hidI HNO.out
          obtain ⟨c0, c1, c2, c3, c4, cf⟩ := five_of ((HBE.out.block w.heap.size (by rw [HS.out]; omega)).trans BOX.out)
          clear HNO hjl
          go_wp2
          go_loopg [48] m.ex.length (fun k i wr => ∃ j : Nat, i = .int .i64 j ∧ j + k = m.ex.length ∧ (m.ex.take j).any (sxI L) = false ∧ Below W0.heap.size W0 wr)
          case atStart => exact ⟨0, rfl, by omega, rfl, HBE.out⟩
          case round =>
            clear c0 c1 c2 c3 c4 cf HBE
            obtain ⟨j, rfl, hj, hno, hbe⟩ := hrel
            have HNO := hidI hno
            have HBE := hidI hbe
            clear hno hbe
            by_cases hlt : j < m.ex.length
            · have hlti : (j : Int) < (m.ex.length : Int) := by omega
              obtain ⟨x, hx⟩ : ∃ x, m.ex[j]? = some x := ⟨_, List.getElem?_eq_getElem hlt⟩
              obtain ⟨bb, off, rfl, hc⟩ := (RX.out.later HBE.out).get hx
              have HX := hidI hx
              have NS := hidI (HN.out.2.2.2 x (List.mem_of_getElem? HX.out))
              have d0 := hc 0 _ rfl
              have d1 := hc 1 _ rfl
              have d2 := hc 2 _ rfl
              have d3 := hc 3 _ rfl
              have d4 := hc 4 _ rfl
              have d5 := hc 5 _ rfl
              simp only [Nat.add_zero] at d0
              clear hc hx
              obtain ⟨j1, hj1⟩ : ∃ j1, j1 = j + 1 := ⟨_, rfl⟩
              have ej : (j : Int) + 1 = (j1 : Int) := by omega
              have FIN : Hid (∀ w' : World, sxI L x = false → Below wr.heap.size wr w' → ∃ j' : Nat, Value.int .i64 (j1 : Int) = .int .i64 (j' : Int) ∧ j' + (gk - 1) = m.ex.length ∧ (m.ex.take j').any (sxI L) = false ∧ Below W0.heap.size W0 w') := fun w' h1 h2 => ⟨j1, rfl, by omega, by rw [hj1]; exact any_snoc HX.out HNO.out h1, HBE.out.trans (h2.mono HBE.out.size)⟩
              clear hj1
              go_upto_region 16 with fail
              refine world_anyI (R := fun W => Below wr.heap.size wr W ∧ W.heap[wr.heap.size]? = some (.cells (exL x).toArray 83 (0, 0))) ⟨(Below.refl _ _).alloc (Nat.le_refl _) _, heap_alloc_new wr _⟩ ?_
              have CWR := hidI (CW.out.kept ((HBE.out.block _ CW.out.lt)))
              obtain ⟨bs, hbs⟩ : ∃ bs, bs = wr.heap.size := ⟨_, rfl⟩
              rw [← hbs]
              have HBS := hidI hbs
              clear d0 d1 d2 d3 d4 d5 hbs
              rintro W2 ⟨hb2, hx2⟩
              rw [HBS.out] at hb2
              have HB2 := hidI hb2
              have CW2 := hidI (CWR.out.kept (hb2.block _ CWR.out.lt))
              obtain ⟨e0, e1, e2, e3, e4, e5, ef⟩ := six_of hx2
              have hlt2 := (Array.getElem?_eq_some_iff.1 hx2).1
              clear hb2 hx2
              cases k2 : (x.kind == 2) with
              | true =>
                cases hv : hB L 3 x.name with
                | true =>
                  have HV : Hid (m.ex.any (sxI L) = true) := any_first HX.out (by rw [sxI, k2, hv]; rfl)
                  clear FIN
                  go_wp2_with (first | (go_at_call 69; refine (has_any b L 3 x.name _ CW2.out (roleN (by decide) (by decide) NS.out)).mono ?_; rintro e w' ⟨rfl, hw⟩; rw [hw]; clear hw w'; change hB L 3 x.name = _ at hv; rw [show decide (0 < cnt L (3, x.name)) = hB L 3 x.name from rfl, hv]))
                  go_ret
                  exact ⟨ret_bool (by rw [NE1.out, NS1.out, HV.out]; simp), HB0.out.trans ((HBE.out.trans (HB2.out.mono HBE.out.size)).mono (by rw [HS.out]; omega))⟩
                | false =>
                  have REL := hidI (FIN.out W2 (by rw [sxI, k2, hv]; rfl) HB2.out)
                  clear FIN
                  go_wp2_with (first | (go_at_call 69; refine (has_any b L 3 x.name _ CW2.out (roleN (by decide) (by decide) NS.out)).mono ?_; rintro e w' ⟨rfl, hw⟩; rw [hw]; clear hw w'; change hB L 3 x.name = _ at hv; rw [show decide (0 < cnt L (3, x.name)) = hB L 3 x.name from rfl, hv]))
                  go_roundg (gk - 1)
                  case rel => exact REL.out
                  case measure => omega
              | false =>
                cases k3 : (x.kind == 3) with
                | true =>
                  cases hv : hB L 3 x.name with
                  | true =>
                    have HV : Hid (m.ex.any (sxI L) = true) := any_first HX.out (by rw [sxI, k2, k3, hv]; rfl)
                    clear FIN
                    go_wp2_with (first | (go_at_call 69; refine (has_any b L 3 x.name _ CW2.out (roleN (by decide) (by decide) NS.out)).mono ?_; rintro e w' ⟨rfl, hw⟩; rw [hw]; clear hw w'; change hB L 3 x.name = _ at hv; rw [show decide (0 < cnt L (3, x.name)) = hB L 3 x.name from rfl, hv]))
                    go_ret
                    exact ⟨ret_bool (by rw [NE1.out, NS1.out, HV.out]; simp), HB0.out.trans ((HBE.out.trans (HB2.out.mono HBE.out.size)).mono (by rw [HS.out]; omega))⟩
                  | false =>
                    have REL := hidI (FIN.out W2 (by rw [sxI, k2, k3, hv]; rfl) HB2.out)
                    clear FIN
                    go_wp2_with (first | (go_at_call 69; refine (has_any b L 3 x.name _ CW2.out (roleN (by decide) (by decide) NS.out)).mono ?_; rintro e w' ⟨rfl, hw⟩; rw [hw]; clear hw w'; change hB L 3 x.name = _ at hv; rw [show decide (0 < cnt L (3, x.name)) = hB L 3 x.name from rfl, hv]))
                    go_roundg (gk - 1)
                    case rel => exact REL.out
                    case measure => omega
                | false =>
                  have REL := hidI (FIN.out W2 (by rw [sxI, k2, k3]; rfl) HB2.out)
                  clear FIN
                  go_wp2
                  go_roundg (gk - 1)
                  case rel => exact REL.out
                  case measure => omega
            · have hlti : ¬ (j : Int) < (m.ex.length : Int) := by omega
              have hjl : m.ex.take j = m.ex := List.take_of_length_le (by omega)
              rw [hjl] at HNO
              go_wp2
              go_ret
              exact ⟨ret_bool (by rw [NE1.out, NS1.out, HNO.out]; rfl), HB0.out.trans (HBE.out.mono (by rw [HS.out]; omega))⟩
end Go.Proofs.Ytcmpakdfebeklaa
namespace Go.Proofs.Ytcmpakdfebeklaa
open Go.RowKit Go.PlainAid

def cntB (l : List ByteArray) (n : ByteArray) : Nat := @List.count ByteArray instBEqOfDecidableEq n l
theorem cntB_pos {l : List ByteArray} {n : ByteArray} : 0 < cntB l n ↔ n ∈ l := count_pos_gen l n
theorem cntB_append (l1 l2 : List ByteArray) (n : ByteArray) : cntB (l1 ++ l2) n = cntB l1 n + cntB l2 n := count_append_gen l1 l2 n
theorem cntB_more (l : List ByteArray) (x n : ByteArray) : cntB (l ++ [x]) n = cntB l n + if x = n then 1 else 0 := count_more l x n
theorem cnt_append (l1 l2 : List (Int × ByteArray)) (p : Int × ByteArray) : cnt (l1 ++ l2) p = cnt l1 p + cnt l2 p := count_append_gen l1 l2 p
theorem cnt_more (l : List (Int × ByteArray)) (x p : Int × ByteArray) : cnt (l ++ [x]) p = cnt l p + if x = p then 1 else 0 := count_more l x p
theorem cnt_nil (p : Int × ByteArray) : cnt [] p = 0 := rfl
theorem cntB_nil (n : ByteArray) : cntB [] n = 0 := rfl
theorem cnt_cons (l : List (Int × ByteArray)) (x p : Int × ByteArray) : cnt (x :: l) p = cnt l p + if x = p then 1 else 0 := by
  have := cnt_append [x] l p
  have h1 := cnt_more [] x p
  rw [List.nil_append, cnt_nil, Nat.zero_add] at h1
  rw [List.singleton_append, h1] at this
  omega
theorem cntB_cons (l : List ByteArray) (x n : ByteArray) : cntB (x :: l) n = cntB l n + if x = n then 1 else 0 := by
  have := cntB_append [x] l n
  have h1 := cntB_more [] x n
  rw [List.nil_append, cntB_nil, Nat.zero_add] at h1
  rw [List.singleton_append, h1] at this
  omega
theorem tw_take {l : List ByteArray} {n : ByteArray} : ∀ k, k ≤ l.length → 2 ≤ cntB (l.take k) n → ∃ i, i < k ∧ inL (l.take i) (l.getD i sNone) = true := by
  intro k
  induction k with
  | zero => intro _ h; rw [List.take_zero, cntB_nil] at h; omega
  | succ k ih =>
    intro hk h
    have hx : l[k]? = some l[k] := List.getElem?_eq_getElem hk
    rw [take_snoc hx, cntB_more] at h
    by_cases h2 : 2 ≤ cntB (l.take k) n
    · obtain ⟨i, hi, hin⟩ := ih (by omega) h2
      exact ⟨i, by omega, hin⟩
    · split at h
      · rename_i e
        refine ⟨k, by omega, inL_iff.2 ?_⟩
        rw [show l.getD k sNone = l[k] by simp [List.getD, hx], e]
        exact cntB_pos.1 (by omega)
      · omega
theorem twB_iff {l : List ByteArray} : twB l = true ↔ ∃ n, 2 ≤ cntB l n := by
  constructor
  · intro h
    rw [twB, List.any_eq_true] at h
    obtain ⟨k, hk, hin⟩ := h
    rw [List.mem_range] at hk
    have hx : l[k]? = some l[k] := List.getElem?_eq_getElem hk
    rw [show l.getD k sNone = l[k] by simp [List.getD, hx]] at hin
    have h1 := cntB_pos.2 (inL_iff.1 hin)
    refine ⟨l[k], ?_⟩
    have e : l = l.take (k + 1) ++ l.drop (k + 1) := (List.take_append_drop _ _).symm
    have : cntB l l[k] = cntB (l.take (k + 1)) l[k] + cntB (l.drop (k + 1)) l[k] := by
      rw [← cntB_append, ← e]
    rw [take_snoc hx, cntB_more, if_pos rfl] at this
    omega
  · rintro ⟨n, hn⟩
    obtain ⟨i, hi, hin⟩ := tw_take (n := n) l.length (Nat.le_refl _) (by rw [List.take_length]; exact hn)
    exact twB_at hi hin
def spcN (l : List Im) : List ByteArray := (l.filter fun x => x.first.toList == [42]).map (·.loc)
theorem kI_cnt (l : List Im) (n : ByteArray) : cnt (kI l) (1, n) = cntB (imN l) n ∧ cnt (kI l) (2, n) = 0 ∧ cnt (kI l) (3, n) = cntB (spcN l) n := by
  induction l with
  | nil => exact ⟨rfl, rfl, rfl⟩
  | cons x l ih =>
    have e : kI (x :: l) = ((1, x.loc) :: if x.first.toList == [42] then [(3, x.loc)] else []) ++ kI l := rfl
    have e1 : imN (x :: l) = x.loc :: imN l := rfl
    rw [e, e1, cnt_append, cnt_append, cnt_append, ih.1, ih.2.1, ih.2.2, cntB_cons]
    have e3 : spcN (x :: l) = if x.first.toList == [42] then x.loc :: spcN l else spcN l := by
      rw [spcN, List.filter_cons]
      split <;> rfl
    rw [e3]
    generalize (x.first.toList == [42]) = b
    cases b <;> simp [cnt_cons, cnt_nil, cntB_cons] <;> omega
theorem kS_cnt (l : List Sm) (n : ByteArray) : cnt (kS l) (1, n) = cntB ((l.filter decI).map (·.name)) n ∧ cnt (kS l) (2, n) = 0 ∧ cnt (kS l) (3, n) = 0 := by
  rw [kS]
  induction l.filter decI with
  | nil => exact ⟨rfl, rfl, rfl⟩
  | cons x l ih =>
    rw [List.map_cons, List.map_cons, cnt_cons, cnt_cons, cnt_cons, ih.1, ih.2.1, ih.2.2, cntB_cons]
    simp
theorem kE_cnt (l : List Ep) (n : ByteArray) : cnt (kE l) (1, n) = 0 ∧ cnt (kE l) (2, n) = cntB (epN l) n ∧ cnt (kE l) (3, n) = 0 := by
  rw [kE, epN]
  induction l.filter (fun x => !(x.kind == 3)) with
  | nil => exact ⟨rfl, rfl, rfl⟩
  | cons x l ih =>
    rw [List.map_cons, List.map_cons, cnt_cons, cnt_cons, cnt_cons, ih.1, ih.2.1, ih.2.2, cntB_cons]
    simp
theorem dec_same {st : List Sm} (h : FairS st) : st.filter decI = st.filter decB := by
  refine List.filter_congr fun s hs => ?_
  have hf := h s hs
  rw [decI, decB]
  cases hd : (s.name.toList == dN) with
  | true =>
    have hk := hf (by simpa using hd)
    rw [hk]
    rfl
  | false => simp [Bool.or_comm]
theorem keys_1 {m : Md} (h : FairS m.st) (n : ByteArray) : cnt (keysI m) (1, n) = cntB (declS m) n := by
  rw [keysI, cnt_append, cnt_append, (kI_cnt _ _).1, (kS_cnt _ _).1, (kE_cnt _ _).1, dec_same h, declS, cntB_append, stN]
  omega
theorem keys_2 (m : Md) (n : ByteArray) : cnt (keysI m) (2, n) = cntB (epN m.ep) n := by
  rw [keysI, cnt_append, cnt_append, (kI_cnt _ _).2.1, (kS_cnt _ _).2.1, (kE_cnt _ _).2.1]
  omega
theorem keys_3 (m : Md) (n : ByteArray) : cnt (keysI m) (3, n) = cntB (spcN m.im) n := by
  rw [keysI, cnt_append, cnt_append, (kI_cnt _ _).2.2, (kS_cnt _ _).2.2, (kE_cnt _ _).2.2]
  omega
theorem tw1 {m : Md} (h : FairS m.st) : twK (keysI m) 1 ↔ twB (declS m) = true := by
  rw [twB_iff]
  exact ⟨fun ⟨n, hn⟩ => ⟨n, by rw [← keys_1 h]; exact hn⟩, fun ⟨n, hn⟩ => ⟨n, by rw [keys_1 h]; exact hn⟩⟩
theorem tw2 (m : Md) : twK (keysI m) 2 ↔ twB (epN m.ep) = true := by
  rw [twB_iff]
  exact ⟨fun ⟨n, hn⟩ => ⟨n, by rw [← keys_2]; exact hn⟩, fun ⟨n, hn⟩ => ⟨n, by rw [keys_2]; exact hn⟩⟩
theorem hB_1 {m : Md} (h : FairS m.st) (n : ByteArray) : hB (keysI m) 1 n = inL (declS m) n := by
  rw [hB, keys_1 h, Bool.eq_iff_iff, decide_eq_true_eq, cntB_pos, inL_iff]
theorem hB_3 {m : Md} (hno : twB (declS m) = false) (n : ByteArray) : hB (keysI m) 3 n = spB m.im n := by
  have hone : ∀ (i j : Nat) (x y : Im), m.im[i]? = some x → m.im[j]? = some y → i < j → x.loc = n → y.loc ≠ n := by
    intro i j x y hi hj hij hx hy
    have : twB (declS m) = true := by
      rw [twB_iff]
      refine ⟨n, ?_⟩
      rw [declS, cntB_append]
      have e : imN m.im = imN (m.im.take j) ++ imN (m.im.drop j) := by rw [imN, imN, imN, ← List.map_append, List.take_append_drop]
      rw [e, cntB_append]
      have h1 : 0 < cntB (imN (m.im.take j)) n := cntB_pos.2 (List.mem_map.2 ⟨x, List.mem_of_getElem? (i := i) (by rw [List.getElem?_take, if_pos hij]; exact hi), hx⟩)
      have h2 : 0 < cntB (imN (m.im.drop j)) n := cntB_pos.2 (List.mem_map.2 ⟨y, List.mem_of_getElem? (i := 0) (by rw [List.getElem?_drop]; exact hj), hy⟩)
      omega
    rw [hno] at this
    cases this
  rw [hB, keys_3, Bool.eq_iff_iff, decide_eq_true_eq, cntB_pos]
  have hmem : n ∈ spcN m.im ↔ ∃ x ∈ m.im, (x.first.toList == [42]) = true ∧ x.loc = n := by
    rw [spcN, List.mem_map]
    constructor
    · rintro ⟨x, hx, e⟩
      rw [List.mem_filter] at hx
      exact ⟨x, hx.1, hx.2, e⟩
    · rintro ⟨x, hx, e1, e2⟩
      exact ⟨x, List.mem_filter.2 ⟨hx, e1⟩, e2⟩
  rw [hmem, spB]
  cases hf : m.im.find? (fun x => x.loc.toList == n.toList) with
  | none =>
    rw [List.find?_eq_none] at hf
    constructor
    · rintro ⟨x, hx, _, e⟩
      exact absurd ((toList_eq_iff _ _).2 e) (hf x hx)
    · intro h
      cases h
  | some y =>
    obtain ⟨hy, i, hi, hiy, hmin⟩ := List.find?_eq_some_iff_getElem.1 hf
    have hyn := (toList_eq_iff _ _).1 hy
    constructor
    · rintro ⟨x, hx, e1, e2⟩
      obtain ⟨j, hj, rfl⟩ := List.mem_iff_getElem.1 hx
      rcases Nat.lt_trichotomy i j with h | h | h
      · exact absurd e2 (hone i j y _ (by rw [List.getElem?_eq_getElem hi, hiy]) (List.getElem?_eq_getElem hj) h hyn)
      · subst h
        rw [← hiy]
        exact e1
      · exact absurd hyn (hone j i _ y (List.getElem?_eq_getElem hj) (by rw [List.getElem?_eq_getElem hi, hiy]) h e2)
    · intro h
      exact ⟨y, by rw [← hiy]; exact List.getElem_mem hi, h, hyn⟩
theorem un_same {m : Md} (h : FairS m.st) : m.ep.any (unI (keysI m)) = unB (declS m) m.ep := by
  rw [unB]
  congr 1
  funext x
  rw [unI, hB_1 h, Bool.and_assoc]
theorem sp_same {m : Md} (hno : twB (declS m) = false) : (m.ep.any (seI (keysI m)) || (m.st.any (ssI (keysI m)) || m.ex.any (sxI (keysI m)))) = (seB m.im m.ep || sxB m.im m.ex || ssB m.im m.st) := by
  have e1 : seI (keysI m) = fun x => x.kind == 1 && spB m.im x.loc := by funext x; rw [seI, hB_3 hno]
  have e2 : ssI (keysI m) = fun x => x.kind == 3 && spB m.im x.name := by funext x; rw [ssI, hB_3 hno]
  have e3 : sxI (keysI m) = fun x => (x.kind == 2 || x.kind == 3) && spB m.im x.name := by funext x; rw [sxI, hB_3 hno]
  rw [e1, e2, e3, seB, sxB, ssB, Bool.or_assoc]
  congr 1
  exact Bool.or_comm _ _
theorem mx_same {m : Md} (hno : twB (declS m) = false) : m.ex.any (mxI (keysI m)) = mxB m.im m.ex := by
  have e : mxI (keysI m) = fun x => (x.kind == 4 || x.kind == 5) && !spB m.im x.name := by funext x; rw [mxI, hB_3 hno]
  rw [e, mxB]
end Go.Proofs.Ytcmpakdfebeklaa
namespace Go.Proofs.Ytcmpakdfebeklaa
open Go.RowKit Go.PlainAid Go.Sort

set_option maxRecDepth 100000 in
set_option maxHeartbeats 6400000 in
theorem early_impl (V : Sv) (m : Md) (scr : Bool) (w : World) (hI : RowAt w V.im.a imL 3 m.im) (hE : RowAt w V.ep.a epL 4 m.ep) (hS : RowAt w V.st.a smL 3 m.st) (hX : RowAt w V.ex.a exL 6 m.ex) (lI : m.im.length ≤ 10000) (lE : m.ep.length ≤ 10000) (lS : m.st.length ≤ 10000) (lX : m.ex.length ≤ 10000) (hN : NameOk m) (hF : FairS m.st) :
    Calls Try.prog 15 #[modD V m, .bool scr] w fun e w' => e = .returned (.int .i64 (earlyS m)) ∧ Below w.heap.size w w' := by
  have HB0 : Hid (Below w.heap.size w (w.alloc (.cells #[.slice V.rq.a m.rq.length V.rq.cap, .slice V.im.a m.im.length V.im.cap, .slice V.ep.a m.ep.length V.ep.cap, .slice V.st.a m.st.length V.st.cap, .slice V.ex.a m.ex.length V.ex.cap] 41))) := (Below.refl _ _).alloc (Nat.le_refl _) _
  have BOX := hidI (heap_alloc_new w (.cells #[.slice V.rq.a m.rq.length V.rq.cap, .slice V.im.a m.im.length V.im.cap, .slice V.ep.a m.ep.length V.ep.cap, .slice V.st.a m.st.length V.st.cap, .slice V.ex.a m.ex.length V.ex.cap] 41))
  have HS := hidI (alloc_size w (.cells #[.slice V.rq.a m.rq.length V.rq.cap, .slice V.im.a m.im.length V.im.cap, .slice V.ep.a m.ep.length V.ep.cap, .slice V.st.a m.st.length V.st.cap, .slice V.ex.a m.ex.length V.ex.cap] 41))
  have RI := hidI (hI.later HB0.out)
  have RE := hidI (hE.later HB0.out)
  have RS := hidI (hS.later HB0.out)
  have RX := hidI (hX.later HB0.out)
  have HN := hidI hN
  have HF := hidI hF
  clear hI hE hS hX hN hF
  unfold modD
  go_enter Try.func15, Try.ntmps15
  go_wp2_with fail
  refine (standingsOf_any V m _ RI.out RE.out RS.out lI lE lS HN.out).mono ?_
  obtain ⟨W0, hW0⟩ : ∃ W0, W0 = w.alloc (.cells #[.slice V.rq.a m.rq.length V.rq.cap, .slice V.im.a m.im.length V.im.cap, .slice V.ep.a m.ep.length V.ep.cap, .slice V.st.a m.st.length V.st.cap, .slice V.ex.a m.ex.length V.ex.cap] 41) := ⟨_, rfl⟩
  rw [← hW0] at BOX HB0 HS RI RE RS RX ⊢
  clear hW0
  rintro e W1 ⟨b, rfl, hcw, hb1, _⟩
  have CW1 := hidI hcw
  have B1 := hidI hb1
  clear hcw hb1
  obtain ⟨L, hL⟩ : ∃ L, L = keysI m := ⟨_, rfl⟩
  have HL := hidI hL
  rw [← hL] at CW1
  clear hL
  go_wp2_with fail
  refine (hasTwice_any b L 1 _ CW1.out).mono ?_
  rintro e W2 ⟨⟨t1, rfl, ht1⟩, hb2⟩
  have T1 : Hid (t1 = twB (declS m)) := by
    show _ = _
    rw [HL.out, tw1 HF.out] at ht1
    exact Bool.eq_iff_iff.2 ht1
  have B2 := hidI (B1.out.trans (hb2.mono B1.out.size))
  have CW2 := hidI (CW1.out.kept (hb2.block _ CW1.out.lt))
  clear ht1 hb2 B1 CW1
  cases t1 with
  | true =>
    have HV : Hid (earlyS m = 1) := by show _ = _; rw [earlyS, ← T1.out]; rfl
    go_wp2
    go_ret
    exact ⟨ret_int HV.out.symm, HB0.out.trans (B2.out.mono (by rw [HS.out]; omega))⟩
  | false =>
    go_wp2_with fail
    refine (hasTwice_any b L 2 _ CW2.out).mono ?_
    rintro e W3 ⟨⟨t2, rfl, ht2⟩, hb3⟩
    have T2 : Hid (t2 = twB (epN m.ep)) := by
      show _ = _
      rw [HL.out, tw2] at ht2
      exact Bool.eq_iff_iff.2 ht2
    have B3 := hidI (B2.out.trans (hb3.mono B2.out.size))
    have CW3 := hidI (CW2.out.kept (hb3.block _ CW2.out.lt))
    clear ht2 hb3 B2 CW2
    cases t2 with
    | true =>
      have HV : Hid (earlyS m = 2) := by show _ = _; rw [earlyS, ← T1.out, ← T2.out]; rfl
      go_wp2
      go_ret
      exact ⟨ret_int HV.out.symm, HB0.out.trans (B3.out.mono (by rw [HS.out]; omega))⟩
    | false =>
      obtain ⟨c0, c1, c2, c3, c4, cf⟩ := five_of ((B3.out.block w.heap.size (by rw [HS.out]; omega)).trans BOX.out)
      go_wp2_with fail
      refine (hasUnbound_any b L V.ep.a V.ep.cap m.ep _ CW3.out (RE.out.later B3.out) lE (fun x hx => (HN.out.2.2.1 x hx).2)).mono ?_
      rintro e W4 ⟨rfl, hb4⟩
      have U : Hid (m.ep.any (unI L) = unB (declS m) m.ep) := by show _ = _; rw [HL.out]; exact un_same HF.out
      rw [U.out]
      have B4 := hidI (B3.out.trans (hb4.mono B3.out.size))
      have CW4 := hidI (CW3.out.kept (hb4.block _ CW3.out.lt))
      clear hb4 B3 CW3 U c0 c1 c2 c3 c4 cf
      cases hu : unB (declS m) m.ep with
      | true =>
        have HV : Hid (earlyS m = 3) := by show _ = _; rw [earlyS, ← T1.out, ← T2.out, hu]; rfl
        go_wp2
        go_ret
        exact ⟨ret_int HV.out.symm, HB0.out.trans (B4.out.mono (by rw [HS.out]; omega))⟩
      | false =>
        obtain ⟨c0, c1, c2, c3, c4, cf⟩ := five_of ((B4.out.block w.heap.size (by rw [HS.out]; omega)).trans BOX.out)
        go_wp2_with fail
        refine (hasSpace_any b L V m _ CW4.out (RE.out.later B4.out) (RS.out.later B4.out) (RX.out.later B4.out) lE lS lX HN.out).mono ?_
        rintro e W5 ⟨rfl, hb5⟩
        have U : Hid ((m.ep.any (seI L) || (m.st.any (ssI L) || m.ex.any (sxI L))) = (seB m.im m.ep || sxB m.im m.ex || ssB m.im m.st)) := by show _ = _; rw [HL.out]; exact sp_same T1.out.symm
        rw [U.out]
        have B5 := hidI (B4.out.trans (hb5.mono B4.out.size))
        have CW5 := hidI (CW4.out.kept (hb5.block _ CW4.out.lt))
        clear hb5 B4 CW4 U c0 c1 c2 c3 c4 cf
        cases hs : (seB m.im m.ep || sxB m.im m.ex || ssB m.im m.st) with
        | true =>
          have HV : Hid (earlyS m = 4) := by show _ = _; rw [earlyS, ← T1.out, ← T2.out, hu, hs]; rfl
          go_wp2
          go_ret
          exact ⟨ret_int HV.out.symm, HB0.out.trans (B5.out.mono (by rw [HS.out]; omega))⟩
        | false =>
          obtain ⟨c0, c1, c2, c3, c4, cf⟩ := five_of ((B5.out.block w.heap.size (by rw [HS.out]; omega)).trans BOX.out)
          go_wp2_with fail
          refine (hasMember_any b L V.ex.a V.ex.cap m.ex _ CW5.out (RX.out.later B5.out) lX HN.out.2.2.2).mono ?_
          rintro e W6 ⟨rfl, hb6⟩
          have U : Hid (m.ex.any (mxI L) = mxB m.im m.ex) := by show _ = _; rw [HL.out]; exact mx_same T1.out.symm
          rw [U.out]
          have B6 := hidI (B5.out.trans (hb6.mono B5.out.size))
          clear hb6 B5 CW5 U c0 c1 c2 c3 c4 cf
          cases hm : mxB m.im m.ex with
          | true =>
            have HV : Hid (earlyS m = 5) := by show _ = _; rw [earlyS, ← T1.out, ← T2.out, hu, hs, hm]; rfl
            go_wp2
            go_ret
            exact ⟨ret_int HV.out.symm, HB0.out.trans (B6.out.mono (by rw [HS.out]; omega))⟩
          | false =>
            have HV : Hid (earlyS m = 0) := by show _ = _; rw [earlyS, ← T1.out, ← T2.out, hu, hs, hm]; rfl
            go_wp2
            go_ret
            exact ⟨ret_int HV.out.symm, HB0.out.trans (B6.out.mono (by rw [HS.out]; omega))⟩
end Go.Proofs.Ytcmpakdfebeklaa
namespace Go.Proofs.Ytcmpakdfebeklaa
open Go.RowKit Go.PlainAid Go.Sort

def SameOut (P : Prop) (e : Ending) : Prop := ∃ b, e = .returned (.bool b) ∧ (b = true ↔ P)
theorem rowsomeE {α : Type} {l : List α} {j : Nat} (h : j < l.length) : ∃ x, l[j]? = some x := ⟨_, List.getElem?_eq_getElem h⟩
theorem take_more {α : Type} {l1 l2 : List α} {j : Nat} {x : α} (h : l1.take j = l2.take j) (h1 : l1[j]? = some x) (h2 : l2[j]? = some x) : l1.take (j + 1) = l2.take (j + 1) := by
  obtain ⟨a, rfl⟩ := List.getElem?_eq_some_iff.1 h1
  obtain ⟨b, hb⟩ := List.getElem?_eq_some_iff.1 h2
  rw [List.take_succ_eq_append_getElem a, List.take_succ_eq_append_getElem b, h, hb]
theorem take_all {α : Type} {l1 l2 : List α} (hl : l1.length = l2.length) (h : l1.take l1.length = l2.take l1.length) : l1 = l2 := by
  rw [List.take_length, hl, List.take_length] at h
  exact h
theorem bytes_eq {a b : ByteArray} (h : (a.toList == b.toList) = true) : a = b := (toList_eq_iff a b).1 h
def eqStr (x y : ByteArray) : Bool := x.toList == y.toList
theorem eqStr_iff {x y : ByteArray} : eqStr x y = true ↔ x = y := ⟨fun h => bytes_eq h, fun h => by rw [h]; exact beq_self_eq_true _⟩
def eqIm (x y : Im) : Bool := x.spec.toList == y.spec.toList && x.first.toList == y.first.toList && x.loc.toList == y.loc.toList
theorem eqIm_iff {x y : Im} : eqIm x y = true ↔ x = y := by
  constructor
  · intro h
    unfold eqIm at h
    simp only [Bool.and_eq_true] at h
    obtain ⟨⟨h0, h1⟩, h2⟩ := h
    cases x
    cases y
    simp only at h0 h1 h2
    congr 1 <;> first | (apply bytes_eq; assumption) | (apply eq_of_beq; assumption)
  · intro h
    rw [h]
    simp [eqIm]
def eqEp (x y : Ep) : Bool := x.kind == y.kind && x.name.toList == y.name.toList && x.loc.toList == y.loc.toList && x.spec.toList == y.spec.toList
theorem eqEp_iff {x y : Ep} : eqEp x y = true ↔ x = y := by
  constructor
  · intro h
    unfold eqEp at h
    simp only [Bool.and_eq_true] at h
    obtain ⟨⟨⟨h0, h1⟩, h2⟩, h3⟩ := h
    cases x
    cases y
    simp only at h0 h1 h2 h3
    congr 1 <;> first | (apply bytes_eq; assumption) | (apply eq_of_beq; assumption)
  · intro h
    rw [h]
    simp [eqEp]
def eqSm (x y : Sm) : Bool := x.kind == y.kind && x.name.toList == y.name.toList && x.expr == y.expr
theorem eqSm_iff {x y : Sm} : eqSm x y = true ↔ x = y := by
  constructor
  · intro h
    unfold eqSm at h
    simp only [Bool.and_eq_true] at h
    obtain ⟨⟨h0, h1⟩, h2⟩ := h
    cases x
    cases y
    simp only at h0 h1 h2
    congr 1 <;> first | (apply bytes_eq; assumption) | (apply eq_of_beq; assumption)
  · intro h
    rw [h]
    simp [eqSm]
def eqEx (x y : Ex) : Bool := x.kind == y.kind && x.num == y.num && x.name.toList == y.name.toList && x.field.toList == y.field.toList && x.l == y.l && x.r == y.r
theorem eqEx_iff {x y : Ex} : eqEx x y = true ↔ x = y := by
  constructor
  · intro h
    unfold eqEx at h
    simp only [Bool.and_eq_true] at h
    obtain ⟨⟨⟨⟨⟨h0, h1⟩, h2⟩, h3⟩, h4⟩, h5⟩ := h
    cases x
    cases y
    simp only at h0 h1 h2 h3 h4 h5
    congr 1 <;> first | (apply bytes_eq; assumption) | (apply eq_of_beq; assumption)
  · intro h
    rw [h]
    simp [eqEx]
end Go.Proofs.Ytcmpakdfebeklaa
namespace Go.Proofs.Ytcmpakdfebeklaa
open Go.RowKit Go.PlainAid Go.Sort

theorem map_flat (l : List ByteArray) : l.map Value.string = l.flatMap (fun x => [Value.string x]) := by
  induction l with
  | nil => rfl
  | cons x l ih => rw [List.map_cons, List.flatMap_cons, ih]; rfl
def TwoM (w0 : World) (b1 b2 : Nat) (S1 S2 : Sv) (m1 m2 : Md) (w : World) : Prop :=
  w.heap[w0.heap.size]? = some (.cells #[.slice S1.rq.a m1.rq.length S1.rq.cap, .slice S1.im.a m1.im.length S1.im.cap, .slice S1.ep.a m1.ep.length S1.ep.cap, .slice S1.st.a m1.st.length S1.st.cap, .slice S1.ex.a m1.ex.length S1.ex.cap] 41 (0, 0)) ∧ w.heap[w0.heap.size + 1]? = some (.cells #[.slice S2.rq.a m2.rq.length S2.rq.cap, .slice S2.im.a m2.im.length S2.im.cap, .slice S2.ep.a m2.ep.length S2.ep.cap, .slice S2.st.a m2.st.length S2.st.cap, .slice S2.ex.a m2.ex.length S2.ex.cap] 41 (0, 0)) ∧ OwnMd w b1 S1 m1 ∧ OwnMd w b2 S2 m2 ∧ Below w0.heap.size w0 w
theorem TwoM.later {w0 w w' : World} {b1 b2 : Nat} {S1 S2 : Sv} {m1 m2 : Md} (h : TwoM w0 b1 b2 S1 S2 m1 m2 w) (hb : Below w.heap.size w w') : TwoM w0 b1 b2 S1 S2 m1 m2 w' :=
  ⟨(hb.block _ (Array.getElem?_eq_some_iff.1 h.1).1).trans h.1, (hb.block _ (Array.getElem?_eq_some_iff.1 h.2.1).1).trans h.2.1, h.2.2.1.later hb, h.2.2.2.1.later hb, h.2.2.2.2.trans (hb.mono h.2.2.2.2.size)⟩
theorem two_start (w : World) (b1 b2 : Nat) (S1 S2 : Sv) (m1 m2 : Md) (h1 : OwnMd w b1 S1 m1) (h2 : OwnMd w b2 S2 m2) : TwoM w b1 b2 S1 S2 m1 m2 ((w.alloc (.cells #[.slice S1.rq.a m1.rq.length S1.rq.cap, .slice S1.im.a m1.im.length S1.im.cap, .slice S1.ep.a m1.ep.length S1.ep.cap, .slice S1.st.a m1.st.length S1.st.cap, .slice S1.ex.a m1.ex.length S1.ex.cap] 41)).alloc (.cells #[.slice S2.rq.a m2.rq.length S2.rq.cap, .slice S2.im.a m2.im.length S2.im.cap, .slice S2.ep.a m2.ep.length S2.ep.cap, .slice S2.st.a m2.st.length S2.st.cap, .slice S2.ex.a m2.ex.length S2.ex.cap] 41)) := by
  have a1 : Below w.heap.size w (w.alloc (.cells #[.slice S1.rq.a m1.rq.length S1.rq.cap, .slice S1.im.a m1.im.length S1.im.cap, .slice S1.ep.a m1.ep.length S1.ep.cap, .slice S1.st.a m1.st.length S1.st.cap, .slice S1.ex.a m1.ex.length S1.ex.cap] 41)) := (Below.refl _ _).alloc (Nat.le_refl _) _
  have a2 : Below (w.alloc (.cells #[.slice S1.rq.a m1.rq.length S1.rq.cap, .slice S1.im.a m1.im.length S1.im.cap, .slice S1.ep.a m1.ep.length S1.ep.cap, .slice S1.st.a m1.st.length S1.st.cap, .slice S1.ex.a m1.ex.length S1.ex.cap] 41)).heap.size (w.alloc (.cells #[.slice S1.rq.a m1.rq.length S1.rq.cap, .slice S1.im.a m1.im.length S1.im.cap, .slice S1.ep.a m1.ep.length S1.ep.cap, .slice S1.st.a m1.st.length S1.st.cap, .slice S1.ex.a m1.ex.length S1.ex.cap] 41)) ((w.alloc (.cells #[.slice S1.rq.a m1.rq.length S1.rq.cap, .slice S1.im.a m1.im.length S1.im.cap, .slice S1.ep.a m1.ep.length S1.ep.cap, .slice S1.st.a m1.st.length S1.st.cap, .slice S1.ex.a m1.ex.length S1.ex.cap] 41)).alloc (.cells #[.slice S2.rq.a m2.rq.length S2.rq.cap, .slice S2.im.a m2.im.length S2.im.cap, .slice S2.ep.a m2.ep.length S2.ep.cap, .slice S2.st.a m2.st.length S2.st.cap, .slice S2.ex.a m2.ex.length S2.ex.cap] 41)) := (Below.refl _ _).alloc (Nat.le_refl _) _
  refine ⟨(a2.block _ (by rw [alloc_size]; omega)).trans (heap_alloc_new w _), ?_, (h1.later a1).later a2, (h2.later a1).later a2, a1.trans (a2.mono (by rw [alloc_size]; omega))⟩
  have := heap_alloc_new (w.alloc (.cells #[.slice S1.rq.a m1.rq.length S1.rq.cap, .slice S1.im.a m1.im.length S1.im.cap, .slice S1.ep.a m1.ep.length S1.ep.cap, .slice S1.st.a m1.st.length S1.st.cap, .slice S1.ex.a m1.ex.length S1.ex.cap] 41)) (.cells #[.slice S2.rq.a m2.rq.length S2.rq.cap, .slice S2.im.a m2.im.length S2.im.cap, .slice S2.ep.a m2.ep.length S2.ep.cap, .slice S2.st.a m2.st.length S2.st.cap, .slice S2.ex.a m2.ex.length S2.ex.cap] 41)
  rw [alloc_size] at this
  exact this
def MdFew (m : Md) : Prop := m.rq.length ≤ 4294967296 ∧ m.im.length ≤ 4294967296 ∧ m.ep.length ≤ 4294967296 ∧ m.st.length ≤ 4294967296 ∧ m.ex.length ≤ 4294967296
theorem md_eq {a b : Md} (h1 : a.rq = b.rq) (h2 : a.im = b.im) (h3 : a.ep = b.ep) (h4 : a.st = b.st) (h5 : a.ex = b.ex) : a = b := by
  cases a
  cases b
  simp only at h1 h2 h3 h4 h5
  rw [h1, h2, h3, h4, h5]
end Go.Proofs.Ytcmpakdfebeklaa
namespace Go.Proofs.Ytcmpakdfebeklaa
open Go.RowKit Go.PlainAid Go.Sort

def PrOf (T : ByteArray) (m : Md) (t : ByteArray) : Prop := (Tree m ∧ t = T) ∨ (¬ Tree m ∧ t = sNone)
theorem PrintOut.form {T : ByteArray} {m : Md} {e : Ending} (h : PrintOut T m e) : ∃ t, PrOf T m t ∧ e = .returned (.string t) := by
  rcases h with ⟨h1, h2⟩ | ⟨h1, h2⟩
  · exact ⟨T, .inl ⟨h1, rfl⟩, h2⟩
  · exact ⟨sNone, .inr ⟨h1, rfl⟩, h2⟩
theorem PrOf.size {T t : ByteArray} {m : Md} {n : Nat} (h : PrOf T m t) (hs : Tree m → T.size ≤ n) : t.size ≤ n := by
  rcases h with ⟨h1, rfl⟩ | ⟨_, rfl⟩
  · exact hs h1
  · exact Nat.zero_le _
def OkOf (t : ByteArray) (scr : Bool) (m : Md) : Prop := ∃ q, ParseR t scr (.ok q) ∧ mdOf q = m
def OkOut (T : ByteArray) (m : Md) (scr : Bool) (e : Ending) : Prop := ∃ t, PrOf T m t ∧ SameOut (OkOf t scr m) e
theorem ok_bad {t : ByteArray} {scr : Bool} {m : Md} {p : Nat} (h : ParseR t scr (.error p)) : ¬ OkOf t scr m := by
  rintro ⟨q, hq, _⟩
  cases parseR_one h hq
theorem ok_iff {t : ByteArray} {scr : Bool} {m n : Md} {q : PS} (h : ParseR t scr (.ok q)) (hn : n = mdOf q) : OkOf t scr m ↔ n = m := by
  constructor
  · rintro ⟨q', hq, he⟩
    cases parseR_one h hq
    rw [hn]
    exact he
  · intro e
    exact ⟨q, h, by rw [← hn]; exact e⟩
theorem ParseOut.md {s : ByteArray} {scr : Bool} {w w' : World} {e : Ending} (h : ParseOut s scr w e w') :
    (∃ (q : PS) (S : Sv) (n : Md), ParseR s scr (.ok q) ∧ n = mdOf q ∧ e = .returned (.tuple #[modD S n, .int .i64 (-1)]) ∧ OwnMd w' w.heap.size S n ∧ MdFew n) ∨ ∃ p : Nat, ParseR s scr (.error p) ∧ e = .returned (.tuple #[.agg #[.slice none 0 0, .slice none 0 0, .slice none 0 0, .slice none 0 0, .slice none 0 0], .int .i64 p]) := by
  obtain ⟨y, hy, hm⟩ := h
  cases y with
  | ok q =>
    obtain ⟨S, he, ho⟩ := hm
    refine .inl ⟨q, S, mdOf q, hy, rfl, he, ho.md, ?_⟩
    have hi := ho.inv
    have hl : (mdOf q).ep.length = q.ep.length + q.la.length := by show (q.ep ++ q.la).length = _; rw [List.length_append]
    refine ⟨?_, ?_, by rw [hl]; omega, ?_, ?_⟩
    · show q.rq.length ≤ _; omega
    · show q.im.length ≤ _; omega
    · show q.st.length ≤ _; omega
    · show q.ex.length ≤ _; omega
  | error p => exact .inr ⟨p, hy, hm⟩
theorem stmt_same {k : Int} {n e : ByteArray} (h : n.toList = dN → k = 1) : stmtTI k n e = stmtT k n e := by
  unfold stmtTI
  split
  · next hn =>
    have e1 := eq_of_beq hn
    rw [h e1, stmtT, if_pos (by decide), if_pos hn]
  · rfl
theorem acc_congr {α : Type} {f g : α → ByteArray} (l : List α) : ∀ t, (∀ x ∈ l, f x = g x) → acc f l t = acc g l t := by
  induction l with
  | nil => intro t _; rfl
  | cons x l ih =>
    intro t h
    show acc f l (t ++ f x) = acc g l (t ++ g x)
    rw [h x (List.mem_cons_self ..)]
    exact ih _ fun y hy => h y (List.mem_cons_of_mem _ hy)
theorem text_same {m : Md} (h : FairS m.st) : textI m = textS m := acc_congr _ _ fun s hs => stmt_same (h s hs)
theorem ok_same {m : Md} {scr : Bool} {t1 t2 : ByteArray} (h1 : PrOf (textS m) m t1) (h2 : PrOf (textI m) m t2) : OkOf t1 scr m ↔ OkOf t2 scr m := by
  by_cases hf : FairS m.st
  · have : t1 = t2 := by
      rw [text_same hf] at h2
      rcases h1 with ⟨a, rfl⟩ | ⟨a, rfl⟩ <;> rcases h2 with ⟨b, rfl⟩ | ⟨b, rfl⟩
      · rfl
      · exact absurd a b
      · exact absurd b a
      · rfl
    rw [this]
  · have no : ∀ t, ¬ OkOf t scr m := by
      rintro t ⟨q, hq, he⟩
      have := parse_fair hq
      rw [← he] at hf
      exact hf this
    exact ⟨fun h => absurd h (no _), fun h => absurd h (no _)⟩
end Go.Proofs.Ytcmpakdfebeklaa
