/-
  What impl's declares and standingsOf answer: the walks.
  What impl's hasTwice answers: the walk.
  What impl.isMember answers: the walk.
  What impl's hasUnbound and hasMemberOfNone answer: the walks.
  Both sides tell the same early errors of a program in which each statement of DefaultName is a let. No program is spoken of.
-/
import Derived.BigRegion
import Derived.Test.YtdbpknmoacjodaaCeImplEarlyAToImplEarlyB
namespace Go.Proofs.Ytdbpknmoacjodaa
open Go.RowKit Go.PlainAid Go.Sort

def decI (s : Sm) : Bool := s.kind == 2 || (s.kind == 1 && !(s.name.toList == dN))
def kI (l : List Im) : List (Int × ByteArray) := l.flatMap fun x => (1, x.loc) :: if x.first.toList == [42] then [(3, x.loc)] else []
def kS (l : List Sm) : List (Int × ByteArray) := (l.filter decI).map fun x => (1, x.name)
def kE (l : List Ep) : List (Int × ByteArray) := (l.filter fun x => !(x.kind == 3)).map fun x => (2, x.name)
def keysI (m : Md) : List (Int × ByteArray) := kI m.im ++ kS m.st ++ kE m.ep
theorem kI_more {l : List Im} {j : Nat} {x : Im} (h : l[j]? = some x) : kI (l.take (j + 1)) = if x.first.toList == [42] then kI (l.take j) ++ [(1, x.loc)] ++ [(3, x.loc)] else kI (l.take j) ++ [(1, x.loc)] := by
  have e : kI [x] = (1, x.loc) :: if x.first.toList == [42] then [(3, x.loc)] else [] := by rw [kI, List.flatMap_cons, List.flatMap_nil, List.append_nil]
  have e2 : kI (l.take j ++ [x]) = kI (l.take j) ++ kI [x] := by rw [kI, List.flatMap_append]; rfl
  rw [take_snoc h, e2, e]
  generalize (x.first.toList == [42]) = b
  cases b <;> simp
theorem kS_more {l : List Sm} {j : Nat} {x : Sm} (h : l[j]? = some x) : kS (l.take (j + 1)) = if decI x then kS (l.take j) ++ [(1, x.name)] else kS (l.take j) := by
  rw [take_snoc h, kS, kS, List.filter_append]
  cases hd : decI x <;> simp [hd]
theorem kE_more {l : List Ep} {j : Nat} {x : Ep} (h : l[j]? = some x) : kE (l.take (j + 1)) = if x.kind == 3 then kE (l.take j) else kE (l.take j) ++ [(2, x.name)] := by
  rw [take_snoc h, kE, kE, List.filter_append]
  cases hd : (x.kind == 3) <;> simp [hd]
theorem kI_len (l : List Im) : (kI l).length ≤ 2 * l.length := by
  induction l with
  | nil => simp [kI]
  | cons x l ih =>
    have : kI (x :: l) = ((1, x.loc) :: if x.first.toList == [42] then [(3, x.loc)] else []) ++ kI l := rfl
    rw [this, List.length_append, List.length_cons, List.length_cons]
    split <;> simp <;> omega
theorem kS_len (l : List Sm) : (kS l).length ≤ l.length := by
  rw [kS, List.length_map]
  exact List.length_filter_le _ _
theorem kE_len (l : List Ep) : (kE l).length ≤ l.length := by
  rw [kE, List.length_map]
  exact List.length_filter_le _ _
set_option maxRecDepth 100000 in
set_option maxHeartbeats 1600000 in
theorem declares_any (x : Sm) (w : World) :
    Calls Try.prog 159 #[.agg #[.int .i64 x.kind, .string x.name, .int .i64 x.expr]] w fun e w' => e = .returned (.bool (decI x)) ∧ Below w.heap.size w w' := by
  have HB : Hid (Below w.heap.size w (w.alloc (.cells #[.int .i64 x.kind, .string x.name, .int .i64 x.expr] 159))) := (Below.refl _ _).alloc (Nat.le_refl _) _
  cases k2 : (x.kind == 2) with
  | true =>
    have HV : Hid (decI x = true) := by show _ = _; rw [decI, k2]; rfl
    go_enter Try.func159, Try.ntmps159
    go_wp2
    go_ret
    exact ⟨ret_bool HV.out.symm, HB.out⟩
  | false =>
    cases k1 : (x.kind == 1) with
    | false =>
      have HV : Hid (decI x = false) := by show _ = _; rw [decI, k2, k1]; rfl
      go_enter Try.func159, Try.ntmps159
      go_wp2
      go_ret
      exact ⟨ret_bool HV.out.symm, HB.out⟩
    | true =>
      have HV : Hid (decI x = !(x.name.toList == dN)) := by show _ = _; rw [decI, k2, k1]; simp
      go_enter Try.func159, Try.ntmps159
      go_wp2
      go_ret
      exact ⟨ret_bool HV.out.symm, HB.out⟩
def StOut (w : World) (L : List (Int × ByteArray)) (e : Ending) (w' : World) : Prop := ∃ b, e = .returned (.map (some b)) ∧ CntW w' b L ∧ Below w.heap.size w w' ∧ w.heap.size ≤ b
def SU (W0 W : World) (L : List (Int × ByteArray)) : Prop := CntW W W0.heap.size L ∧ Below W0.heap.size W0 W
theorem SU.below {W0 W W' : World} {L : List (Int × ByteArray)} (h : SU W0 W L) (hb : Below W.heap.size W W') : SU W0 W' L := ⟨h.1.kept (hb.block _ h.1.lt), h.2.trans (hb.mono h.2.size)⟩
theorem SU.grown {W0 W W' : World} {L L' : List (Int × ByteArray)} (h : SU W0 W L) (hc : CntW W' W0.heap.size L') (hg : W.grownBy W' (some W0.heap.size)) : SU W0 W' L' := ⟨hc, h.2.grown hg h.2.size fun k hk => by cases hk; exact Nat.le_refl _⟩
theorem SU.start (W0 : World) : SU W0 (W0.alloc (.map #[] 0)) [] := ⟨⟨#[], 0, heap_alloc_new W0 _, cntE_none mkK, fun p hp => by cases hp⟩, (Below.refl _ _).alloc (Nat.le_refl _) _⟩
def NameOk (m : Md) : Prop := (∀ x ∈ m.im, x.loc.size ≤ maxLen) ∧ (∀ x ∈ m.st, x.name.size ≤ maxLen) ∧ (∀ x ∈ m.ep, x.name.size ≤ maxLen ∧ x.loc.size ≤ maxLen) ∧ ∀ x ∈ m.ex, x.name.size ≤ maxLen
set_option maxRecDepth 100000 in
set_option maxHeartbeats 6400000 in
theorem standingsOf_any (V : Sv) (m : Md) (w : World) (hI : RowAt w V.im.a imL 3 m.im) (hE : RowAt w V.ep.a epL 4 m.ep) (hS : RowAt w V.st.a smL 3 m.st) (lI : m.im.length ≤ 10000) (lE : m.ep.length ≤ 10000) (lS : m.st.length ≤ 10000) (hN : NameOk m) :
    Calls Try.prog 99 #[modD V m] w (StOut w (keysI m)) := by
  obtain ⟨a1, ha1⟩ : ∃ a, V.im.a = a := ⟨_, rfl⟩
  obtain ⟨a2, ha2⟩ : ∃ a, V.ep.a = a := ⟨_, rfl⟩
  obtain ⟨a3, ha3⟩ : ∃ a, V.st.a = a := ⟨_, rfl⟩
  unfold modD
  rw [ha1] at hI ⊢
  rw [ha2] at hE ⊢
  rw [ha3] at hS ⊢
  have HB0 : Hid (Below w.heap.size w (w.alloc (.cells #[.slice V.rq.a m.rq.length V.rq.cap, .slice a1 m.im.length V.im.cap, .slice a2 m.ep.length V.ep.cap, .slice a3 m.st.length V.st.cap, .slice V.ex.a m.ex.length V.ex.cap] 37))) := (Below.refl _ _).alloc (Nat.le_refl _) _
  have BOX := hidI (heap_alloc_new w (.cells #[.slice V.rq.a m.rq.length V.rq.cap, .slice a1 m.im.length V.im.cap, .slice a2 m.ep.length V.ep.cap, .slice a3 m.st.length V.st.cap, .slice V.ex.a m.ex.length V.ex.cap] 37))
  have HS := hidI (alloc_size w (.cells #[.slice V.rq.a m.rq.length V.rq.cap, .slice a1 m.im.length V.im.cap, .slice a2 m.ep.length V.ep.cap, .slice a3 m.st.length V.st.cap, .slice V.ex.a m.ex.length V.ex.cap] 37))
  have RI := hidI (hI.later HB0.out)
  have RE := hidI (hE.later HB0.out)
  have RS := hidI (hS.later HB0.out)
  have ST := hidI (SU.start (w.alloc (.cells #[.slice V.rq.a m.rq.length V.rq.cap, .slice a1 m.im.length V.im.cap, .slice a2 m.ep.length V.ep.cap, .slice a3 m.st.length V.st.cap, .slice V.ex.a m.ex.length V.ex.cap] 37)))
  have HNO := hidI hN
  clear hI hE hS ha1 ha2 ha3 hN
  have hmm := @run_makeMap Try.prog
  go_enter Try.func99, Try.ntmps99
  go_upto_region 2 with fail
  obtain ⟨W0, hW0⟩ : ∃ W0, W0 = w.alloc (.cells #[.slice V.rq.a m.rq.length V.rq.cap, .slice a1 m.im.length V.im.cap, .slice a2 m.ep.length V.ep.cap, .slice a3 m.st.length V.st.cap, .slice V.ex.a m.ex.length V.ex.cap] 37) := ⟨_, rfl⟩
  rw [← hW0] at BOX HB0 HS RI RE RS ST ⊢
  refine world_anyI (R := fun W => SU W0 W []) ST.out ?_
  clear hW0 ST hmm
  intro W1 hs1
  have SU1 := hidI hs1
  clear hs1
  obtain ⟨c0, c1, c2, c3, c4, cf⟩ := five_of ((SU1.out.2.block w.heap.size (by rw [HS.out]; omega)).trans BOX.out)
  go_wp2
  go_loopg [14] m.im.length (fun k i wr => ∃ j : Nat, i = .int .i64 j ∧ j + k = m.im.length ∧ SU W0 wr (kI (m.im.take j)))
  case atStart => exact ⟨0, rfl, by omega, SU1.out⟩
  case round =>
    clear c0 c1 c2 c3 c4 cf
    obtain ⟨j, rfl, hj, hsu⟩ := hrel
    have HSU := hidI hsu
    clear hsu
    by_cases hlt : j < m.im.length
    · have hlti : (j : Int) < (m.im.length : Int) := by omega
      obtain ⟨x, hx⟩ : ∃ x, m.im[j]? = some x := ⟨_, List.getElem?_eq_getElem hlt⟩
      obtain ⟨b, off, rfl, hc⟩ := (RI.out.later HSU.out.2).get hx
      have KEY := hidI (kI_more hx)
      have OK1 : Hid (RoleOk (1, x.loc)) := ⟨by show (1 : Int) ≤ 1; omega, by show (1 : Int) ≤ 3; omega, HNO.out.1 x (List.mem_of_getElem? hx)⟩
      have OK3 : Hid (RoleOk (3, x.loc)) := ⟨by show (1 : Int) ≤ 3; omega, by show (3 : Int) ≤ 3; omega, HNO.out.1 x (List.mem_of_getElem? hx)⟩
      have d0 := hc 0 _ rfl
      have d1 := hc 1 _ rfl
      have d2 := hc 2 _ rfl
      simp only [Nat.add_zero] at d0
      clear hc hx
      obtain ⟨L, hL⟩ : ∃ L, L = kI (m.im.take j) := ⟨_, rfl⟩
      have hLl : L.length ≤ 20000 := by rw [hL]; have := kI_len (m.im.take j); rw [List.length_take] at this; omega
      rw [← hL] at HSU KEY
      clear hL
      obtain ⟨j1, hj1⟩ : ∃ j1, j1 = j + 1 := ⟨_, rfl⟩
      have ej : (j : Int) + 1 = (j1 : Int) := by omega
      have FIN : Hid (∀ (w' : World), SU W0 w' (kI (m.im.take (j + 1))) → ∃ j' : Nat, Value.int .i64 (j1 : Int) = .int .i64 (j' : Int) ∧ j' + (gk - 1) = m.im.length ∧ SU W0 w' (kI (m.im.take j'))) := fun w' h => ⟨j1, rfl, by omega, by rw [hj1]; exact h⟩
      clear hj1
      go_upto_region 5 with fail
      refine world_anyI (R := fun W => SU W0 W L ∧ W.heap[wr.heap.size]? = some (.cells (imL x).toArray 154 (0, 0)) ∧ wr.heap.size < W.heap.size) ⟨HSU.out.below ((Below.refl _ _).alloc (Nat.le_refl _) _), heap_alloc_new wr _, by rw [alloc_size]; omega⟩ ?_
      obtain ⟨bs, hbs⟩ : ∃ bs, bs = wr.heap.size := ⟨_, rfl⟩
      rw [← hbs]
      have NE : Hid (some bs ≠ some W0.heap.size) := fun e => by have := HSU.out.1.lt; simp only [Option.some.injEq] at e; omega
      clear d0 d1 d2 hbs HSU
      rintro W2 ⟨hs2, hx2, hlt2⟩
      have SU2 := hidI hs2
      have HX2 := hidI hx2
      obtain ⟨e0, e1, e2, ef⟩ := three_of hx2
      obtain ⟨c, v0, st, Wa, Wb, hc, l1, me, l2, es, hcnt, hgr⟩ := hs2.1.bump (1, x.loc) OK1.out
      have hc2 : c ≤ 20000 := by omega
      dsimp only at l1 me l2 es
      have SU3 := hidI (hs2.grown hcnt hgr)
      have X3 : Hid (Wb.heap[bs]? = some (.cells (imL x).toArray 154 (0, 0))) := (hgr.block bs hlt2 NE.out).trans hx2
      have hlt3 : bs < Wb.heap.size := Nat.lt_of_lt_of_le hlt2 hgr.size
      clear hs2 hx2 hcnt hgr hc
      rw [HS.out] at l1 me l2 es
      go_wp2_with fail
      go_region
      all_goals
        clear e0 e1 e2 ef l1 me l2 es
        obtain ⟨e0, e1, e2, ef⟩ := three_of X3.out
        cases kf : (x.first.toList == [42]) with
        | false =>
          have REL := hidI (FIN.out Wb (by rw [KEY.out, kf, if_neg Bool.false_ne_true]; exact SU3.out))
          clear FIN KEY SU3 SU2 X3 HX2
          go_wp2
          go_roundg (gk - 1)
          case rel => exact REL.out
          case measure => omega
        | true =>
          obtain ⟨cc, v1, st1, Wc, Wd, hcc, l1, me, l2, es, hcnt, hgr⟩ := SU3.out.1.bump (3, x.loc) OK3.out
          rw [List.length_append] at hcc
          have hc3 : cc ≤ 20001 := by simp only [List.length_singleton] at hcc; omega
          dsimp only at l1 me l2 es
          rw [HS.out] at l1 me l2 es
          have REL := hidI (FIN.out Wd (by rw [KEY.out, kf, if_pos rfl]; exact SU3.out.grown hcnt hgr))
          clear FIN KEY SU3 SU2 X3 HX2 hcnt hgr hcc
          go_wp2_with fail
          go_region
          all_goals
            go_wp2
            go_roundg (gk - 1)
            case rel => exact REL.out
            case measure => omega
    · have hlti : ¬ (j : Int) < (m.im.length : Int) := by omega
      have hjl : m.im.take j = m.im := List.take_of_length_le (by omega)
      rw [hjl] at HSU
      obtain ⟨c0, c1, c2, c3, c4, cf⟩ := five_of ((HSU.out.2.block w.heap.size (by rw [HS.out]; omega)).trans BOX.out)
      obtain ⟨L1, hL1⟩ : ∃ L, L = kI m.im := ⟨_, rfl⟩
      have HL1 := hidI hL1
      have hLl1 : L1.length ≤ 20000 := by rw [hL1]; have := kI_len m.im; omega
      rw [← hL1] at HSU
      clear hL1 hjl SU1
      go_wp2
      go_loopg [41] m.st.length (fun k i wr => ∃ j : Nat, i = .int .i64 j ∧ j + k = m.st.length ∧ SU W0 wr (L1 ++ kS (m.st.take j)))
      case atStart => exact ⟨0, rfl, by omega, by rw [List.take_zero]; show SU W0 _ (L1 ++ []); rw [List.append_nil]; exact HSU.out⟩
      case round =>
        clear c0 c1 c2 c3 c4 cf HSU
        obtain ⟨j, rfl, hj, hsu⟩ := hrel
        have HSU := hidI hsu
        clear hsu
        by_cases hlt : j < m.st.length
        · have hlti : (j : Int) < (m.st.length : Int) := by omega
          obtain ⟨x, hx⟩ : ∃ x, m.st[j]? = some x := ⟨_, List.getElem?_eq_getElem hlt⟩
          obtain ⟨b, off, rfl, hc⟩ := (RS.out.later HSU.out.2).get hx
          have KEY := hidI (kS_more hx)
          have OK1 : Hid (RoleOk (1, x.name)) := ⟨by show (1 : Int) ≤ 1; omega, by show (1 : Int) ≤ 3; omega, HNO.out.2.1 x (List.mem_of_getElem? hx)⟩
          have d0 := hc 0 _ rfl
          have d1 := hc 1 _ rfl
          have d2 := hc 2 _ rfl
          simp only [Nat.add_zero] at d0
          clear hc hx
          obtain ⟨L, hL⟩ : ∃ L, L = L1 ++ kS (m.st.take j) := ⟨_, rfl⟩
          have HL := hidI hL
          have hLl : L.length ≤ 40000 := by rw [hL, List.length_append]; have := kS_len (m.st.take j); rw [List.length_take] at this; omega
          rw [← hL] at HSU
          clear hL
          obtain ⟨j1, hj1⟩ : ∃ j1, j1 = j + 1 := ⟨_, rfl⟩
          have ej : (j : Int) + 1 = (j1 : Int) := by omega
          have FIN : Hid (∀ (w' : World), SU W0 w' (L1 ++ kS (m.st.take (j + 1))) → ∃ j' : Nat, Value.int .i64 (j1 : Int) = .int .i64 (j' : Int) ∧ j' + (gk - 1) = m.st.length ∧ SU W0 w' (L1 ++ kS (m.st.take j'))) := fun w' h => ⟨j1, rfl, by omega, by rw [hj1]; exact h⟩
          clear hj1
          go_upto_region 12 with fail
          refine world_anyI (R := fun W => SU W0 W L ∧ W.heap[wr.heap.size]? = some (.cells (smL x).toArray 159 (0, 0)) ∧ wr.heap.size < W.heap.size) ⟨HSU.out.below ((Below.refl _ _).alloc (Nat.le_refl _) _), heap_alloc_new wr _, by rw [alloc_size]; omega⟩ ?_
          obtain ⟨bs, hbs⟩ : ∃ bs, bs = wr.heap.size := ⟨_, rfl⟩
          rw [← hbs]
          clear d0 d1 d2 hbs HSU
          rintro W2 ⟨hs2, hx2, hlt2⟩
          have SU2 := hidI hs2
          have HX2 := hidI hx2
          obtain ⟨e0, e1, e2, ef⟩ := three_of hx2
          clear hs2 hx2
          go_wp2_with fail
          refine (declares_any x _).mono ?_
          rintro e W3 ⟨rfl, hb3⟩
          have SU3 := hidI (SU2.out.below hb3)
          have X3 := hidI ((hb3.block bs hlt2).trans HX2.out)
          clear e0 e1 e2 ef hb3 SU2 HX2 hlt2
          obtain ⟨e0, e1, e2, ef⟩ := three_of X3.out
          have hlt3 := (Array.getElem?_eq_some_iff.1 X3.out).1
          cases hd : decI x with
          | false =>
            have REL := hidI (FIN.out W3 (by rw [KEY.out, hd, if_neg Bool.false_ne_true, ← HL.out]; exact SU3.out))
            clear FIN KEY SU3 X3 HL
            go_wp2
            go_roundg (gk - 1)
            case rel => exact REL.out
            case measure => omega
          | true =>
            obtain ⟨cc, v1, st1, Wc, Wd, hcc, l1, me, l2, es, hcnt, hgr⟩ := SU3.out.1.bump (1, x.name) OK1.out
            have hc3 : cc ≤ 40000 := by omega
            dsimp only at l1 me l2 es
            rw [HS.out] at l1 me l2 es
            have REL := hidI (FIN.out Wd (by rw [KEY.out, hd, if_pos rfl, ← List.append_assoc, ← HL.out]; exact SU3.out.grown hcnt hgr))
            clear FIN KEY SU3 X3 HL hcnt hgr hcc
            go_wp2_with fail
            go_region
            all_goals
              go_wp2
              go_roundg (gk - 1)
              case rel => exact REL.out
              case measure => omega
        · have hlti : ¬ (j : Int) < (m.st.length : Int) := by omega
          have hjl : m.st.take j = m.st := List.take_of_length_le (by omega)
          rw [hjl] at HSU
          obtain ⟨c0, c1, c2, c3, c4, cf⟩ := five_of ((HSU.out.2.block w.heap.size (by rw [HS.out]; omega)).trans BOX.out)
          obtain ⟨L2, hL2⟩ : ∃ L, L = L1 ++ kS m.st := ⟨_, rfl⟩
          have HL2 := hidI hL2
          have hLl2 : L2.length ≤ 40000 := by rw [hL2, List.length_append]; have := kS_len m.st; omega
          rw [← hL2] at HSU
          clear hL2 hjl
          go_wp2
          go_loopg [59] m.ep.length (fun k i wr => ∃ j : Nat, i = .int .i64 j ∧ j + k = m.ep.length ∧ SU W0 wr (L2 ++ kE (m.ep.take j)))
          case atStart => exact ⟨0, rfl, by omega, by rw [List.take_zero]; show SU W0 _ (L2 ++ []); rw [List.append_nil]; exact HSU.out⟩
          case round =>
            clear c0 c1 c2 c3 c4 cf HSU
            obtain ⟨j, rfl, hj, hsu⟩ := hrel
            have HSU := hidI hsu
            clear hsu
            by_cases hlt : j < m.ep.length
            · have hlti : (j : Int) < (m.ep.length : Int) := by omega
              obtain ⟨x, hx⟩ : ∃ x, m.ep[j]? = some x := ⟨_, List.getElem?_eq_getElem hlt⟩
              obtain ⟨b, off, rfl, hc⟩ := (RE.out.later HSU.out.2).get hx
              have KEY := hidI (kE_more hx)
              have OK1 : Hid (RoleOk (2, x.name)) := ⟨by show (1 : Int) ≤ 2; omega, by show (2 : Int) ≤ 3; omega, (HNO.out.2.2.1 x (List.mem_of_getElem? hx)).1⟩
              have d0 := hc 0 _ rfl
              have d1 := hc 1 _ rfl
              have d2 := hc 2 _ rfl
              have d3 := hc 3 _ rfl
              simp only [Nat.add_zero] at d0
              clear hc hx
              obtain ⟨L, hL⟩ : ∃ L, L = L2 ++ kE (m.ep.take j) := ⟨_, rfl⟩
              have HL := hidI hL
              have hLl : L.length ≤ 60000 := by rw [hL, List.length_append]; have := kE_len (m.ep.take j); rw [List.length_take] at this; omega
              rw [← hL] at HSU
              clear hL
              obtain ⟨j1, hj1⟩ : ∃ j1, j1 = j + 1 := ⟨_, rfl⟩
              have ej : (j : Int) + 1 = (j1 : Int) := by omega
              have FIN : Hid (∀ (w' : World), SU W0 w' (L2 ++ kE (m.ep.take (j + 1))) → ∃ j' : Nat, Value.int .i64 (j1 : Int) = .int .i64 (j' : Int) ∧ j' + (gk - 1) = m.ep.length ∧ SU W0 w' (L2 ++ kE (m.ep.take j'))) := fun w' h => ⟨j1, rfl, by omega, by rw [hj1]; exact h⟩
              clear hj1
              go_upto_region 18 with fail
              refine world_anyI (R := fun W => SU W0 W L ∧ W.heap[wr.heap.size]? = some (.cells (epL x).toArray 79 (0, 0)) ∧ wr.heap.size < W.heap.size) ⟨HSU.out.below ((Below.refl _ _).alloc (Nat.le_refl _) _), heap_alloc_new wr _, by rw [alloc_size]; omega⟩ ?_
              obtain ⟨bs, hbs⟩ : ∃ bs, bs = wr.heap.size := ⟨_, rfl⟩
              rw [← hbs]
              clear d0 d1 d2 d3 hbs HSU
              rintro W2 ⟨hs2, hx2, hlt2⟩
              have SU3 := hidI hs2
              obtain ⟨e0, e1, e2, e3, ef⟩ := four_of hx2
              clear hs2 hx2
              cases hd : (x.kind == 3) with
              | true =>
                have REL := hidI (FIN.out W2 (by rw [KEY.out, hd, if_pos rfl, ← HL.out]; exact SU3.out))
                clear FIN KEY SU3 HL
                go_wp2
                go_roundg (gk - 1)
                case rel => exact REL.out
                case measure => omega
              | false =>
                obtain ⟨cc, v1, st1, Wc, Wd, hcc, l1, me, l2, es, hcnt, hgr⟩ := SU3.out.1.bump (2, x.name) OK1.out
                have hc3 : cc ≤ 60000 := by omega
                dsimp only at l1 me l2 es
                rw [HS.out] at l1 me l2 es
                have REL := hidI (FIN.out Wd (by rw [KEY.out, hd, if_neg Bool.false_ne_true, ← List.append_assoc, ← HL.out]; exact SU3.out.grown hcnt hgr))
                clear FIN KEY SU3 HL hcnt hgr hcc
                go_wp2_with fail
                go_region
                all_goals
                  go_wp2
                  go_roundg (gk - 1)
                  case rel => exact REL.out
                  case measure => omega
            · have hlti : ¬ (j : Int) < (m.ep.length : Int) := by omega
              have hjl : m.ep.take j = m.ep := List.take_of_length_le (by omega)
              rw [hjl, HL2.out, HL1.out] at HSU
              go_wp2
              go_ret
              refine ⟨_, rfl, ?_, HB0.out.trans (HSU.out.2.mono (by rw [HS.out]; omega)), by omega⟩
              have := HSU.out.1
              rw [HS.out] at this
              exact this
end Go.Proofs.Ytdbpknmoacjodaa
namespace Go.Proofs.Ytdbpknmoacjodaa
open Go.RowKit Go.PlainAid Go.Sort
open Go.ChangeMaps (setBlock)

def twK (L : List (Int × ByteArray)) (r : Int) : Prop := ∃ n, 2 ≤ cnt L (r, n)
def TwOut (L : List (Int × ByteArray)) (r : Int) (e : Ending) : Prop := ∃ b : Bool, e = .returned (.bool b) ∧ (b = true ↔ twK L r)
def RgW (W0 W : World) (b it : Nat) (es : Array MapEntry) (clock : Nat) (r : Int) (k : Nat) : Prop :=
  ∃ seen : Array Nat, W.heap[it]? = some (.mapIter (some b) clock seen clock) ∧ W.heap[b]? = some (.map es clock) ∧ (leftOf es seen).size = k ∧ Below W0.heap.size W0 W ∧
    ∀ y ∈ es.toList, seen.contains y.born = true → ∀ n c, y.key = mkK (r, n) → y.val = .int .i64 c → c ≤ 1
theorem leftOf_less {es : Array MapEntry} {seen : Array Nat} {y : MapEntry} (hy : y ∈ (leftOf es seen).toList) : (leftOf es (seen.push y.born)).size < (leftOf es seen).size := by
  have e : (leftOf es (seen.push y.born)).toList = (leftOf es seen).toList.filter (fun x => !(x.born == y.born)) := by
    simp only [leftOf, Array.toList_filter, List.filter_filter, Array.contains_push]
    refine List.filter_congr fun x _ => ?_
    rw [Bool.not_or, Bool.and_comm]
  rw [← Array.length_toList, ← Array.length_toList, e, List.length_filter_lt_length_iff_exists]
  exact ⟨y, hy, by simp⟩
theorem born_inj {l : List MapEntry} (h : (l.map (·.born)).Nodup) {x y : MapEntry} (hx : x ∈ l) (hy : y ∈ l) (e : x.born = y.born) : x = y := by
  obtain ⟨i, hi, rfl⟩ := List.mem_iff_getElem.1 hx
  obtain ⟨j, hj, rfl⟩ := List.mem_iff_getElem.1 hy
  have : i = j := (List.getElem_inj (xs := l.map (·.born)) (h₀ := by rw [List.length_map]; exact hi) (h₁ := by rw [List.length_map]; exact hj) h).1 (by rw [List.getElem_map, List.getElem_map]; exact e)
  subst this
  rfl
set_option maxRecDepth 100000 in
set_option maxHeartbeats 3200000 in
theorem hasTwice_any (b : Nat) (L : List (Int × ByteArray)) (r : Int) (w : World) (h : CntW w b L) :
    Calls Try.prog 100 #[.map (some b), .int .i64 r] w fun e w' => TwOut L r e ∧ Below w.heap.size w w' := by
  obtain ⟨es, clock, hb, hc, hR⟩ := h
  have hrr := run_range_map (P := Try.prog) w 147 213 3 b es clock Try.underlying147 hb
  have HB := hidI hb
  have HC := hidI hc
  have HR := hidI hR
  clear hb hc hR
  go_enter Try.func100, Try.ntmps100
  go_wp2
  obtain ⟨it, hit⟩ : ∃ it, it = w.heap.size := ⟨_, rfl⟩
  have START : Hid (RgW w (w.alloc (.mapIter (some b) clock #[] clock)) b it es clock r (leftOf es #[]).size) := ⟨#[], by rw [hit]; exact heap_alloc_new w _, (heap_alloc_old _ _ (Array.getElem?_eq_some_iff.1 HB.out).1).trans HB.out, rfl, (Below.refl _ _).alloc (Nat.le_refl _) _, fun y _ h => by simp at h⟩
  have HIT : Hid (w.heap.size ≤ it) := Nat.le_of_eq hit.symm
  rw [← hit]
  clear hit
  go_loopg [6] (leftOf es #[]).size (fun k u wr => RgW w wr b it es clock r k)
  case atStart => exact START.out
  case round =>
    clear START
    obtain ⟨seen, hi, hb, hk, hbel, hno⟩ := hrel
    have HI := hidI hi
    have HB1 := hidI hb
    have HK := hidI hk
    have HBE := hidI hbel
    have HNO := hidI hno
    rcases run_next_at (P := Try.prog) wr 0 it b clock clock seen es clock hi hb HC.out.1.1 (Nat.le_refl _) with ⟨h0, hrun⟩ | ⟨y, hy, w1, hw1, hrun⟩
    · have HV : Hid (¬ twK L r) := fun ⟨n, hn⟩ => by
        obtain ⟨y, hy, e1, e2⟩ := cntE_has HC.out (cnt_pos.1 (Nat.lt_of_lt_of_le (by decide) hn))
        have hs : seen.contains y.born = true := by
          cases hs : seen.contains y.born with
          | true => rfl
          | false =>
            have : y ∈ (leftOf es seen).toList := by
              simp only [leftOf, Array.toList_filter, List.mem_filter]
              exact ⟨hy, by rw [hs]; rfl⟩
            rw [Array.eq_empty_of_size_eq_zero h0] at this
            cases this
        have := HNO.out y hy hs n _ e1 e2
        have h2 : (2 : Int) ≤ (cnt L (r, n) : Nat) := by omega
        unfold cnt at h2
        omega
      clear hi hb hk hbel hno h0
      go_wp2
      go_ret
      exact ⟨⟨false, rfl, ⟨fun k => (by cases k), fun k => absurd k HV.out⟩⟩, HBE.out⟩
    · have hym : y ∈ es.toList := by
        simp only [leftOf, Array.toList_filter, List.mem_filter] at hy
        exact hy.1
      obtain ⟨jy, hjy, hjy2⟩ := List.mem_iff_getElem.1 hym
      obtain ⟨z, hz, e1, e2⟩ := cntE_get HC.out (j := jy) (y := y) (by rw [List.getElem?_eq_getElem hjy, hjy2])
      have LESS := hidI (leftOf_less hy)
      have hh : w1.heap = wr.heap := by rcases hw1 with rfl | rfl <;> rfl
      have hne : b ≠ it := fun e => by rw [e, hi] at hb; cases hb
      have hi1 : w1.heap[it]? = some (.mapIter (some b) clock seen clock) := by rw [hh]; exact hi
      have n1 := (MapKept.heap_set (o' := .mapIter (some b) clock (seen.push y.born) clock) hi1).1
      have n2 := (MapKept.heap_set (o' := .mapIter (some b) clock (seen.push y.born) clock) hi1).2
      have hB1 : Below w.heap.size w (setBlock w1 it (.mapIter (some b) clock (seen.push y.born) clock)) := by
        have h1 : Below w.heap.size w w1 := by rcases hw1 with rfl | rfl; exact hbel; exact hbel.drew
        refine ⟨h1.os, h1.tape, h1.output, by simpa [setBlock] using h1.size, fun k hk' => ?_⟩
        have hki : k ≠ it := by have := HIT.out; omega
        exact (n2 k hki).trans (h1.block k hk')
      have hen := run_entry_at (P := Try.prog) (setBlock w1 it (.mapIter (some b) clock (seen.push y.born) clock)) it b clock seen es clock y n1 ((n2 b hne).trans (by rw [hh]; exact hb)) hym HC.out.1.2.1
      have NB := hidI ((n2 b hne).trans (show w1.heap[b]? = some (.map es clock) by rw [hh]; exact hb))
      have NI : (setBlock w1 it (.mapIter (some b) clock (seen.push y.born) clock)).heap[it]? = some (.mapIter (some b) clock (seen.push y.born) clock) := n1
      have NBE := hidI hB1
      change (setBlock w1 it (.mapIter (some b) clock (seen.push y.born) clock)).heap[b]? = _ at NB
      generalize setBlock w1 it (.mapIter (some b) clock (seen.push y.born) clock) = Wn at hrun hen NB NI NBE
      rw [e1, e2] at hrun hen
      have NOM : Hid ((z.1 = r → cnt L z ≤ 1) → ∀ y' ∈ es.toList, (seen.push y.born).contains y'.born = true → ∀ n c, y'.key = mkK (r, n) → y'.val = .int .i64 c → c ≤ 1) := fun hzr y' hy' hs n c k1 k2 => by
        rw [Array.contains_push, Bool.or_eq_true] at hs
        rcases hs with hs | hs
        · exact HNO.out y' hy' hs n c k1 k2
        · have hyy := born_inj HC.out.1.2.1 hy' hym (eq_of_beq hs)
          rw [hyy, e1] at k1
          rw [hyy, e2] at k2
          have := mkK_inj _ _ k1
          have h1 := hzr (by rw [this])
          simp only [Value.int.injEq, true_and] at k2
          unfold cnt at h1
          omega
      obtain ⟨r0, n0⟩ := z
      have hcl := cnt_le L (r0, n0)
      obtain ⟨c, hcv⟩ : ∃ c : Nat, c = cnt L (r0, n0) := ⟨_, rfl⟩
      change (Instr.next (.pointer (some ⟨it, 0, none⟩)) false 0).run Try.prog wr = .ok (.tuple #[.bool true, .agg #[.int .i64 r0, .string n0], .int .i64 (cnt L (r0, n0) : Nat)]) Wn at hrun
      change (Instr.entry (.pointer (some ⟨it, 0, none⟩))).run Try.prog Wn = .ok (.tuple #[.agg #[.int .i64 r0, .string n0], .int .i64 (cnt L (r0, n0) : Nat)]) Wn at hen
      rw [← hcv] at hrun hen hcl
      have HCV := hidI hcv
      clear hcv hi hb hk hbel hno n1 n2 hB1 hi1 hh hw1 hjy2 hjy e1 e2 hz hym hy
      have FIN : Hid ((r0 = r → c ≤ 1) → RgW w (Wn.alloc (.cells #[.int .i64 r0, .string n0] 213)) b it es clock r (leftOf es (seen.push y.born)).size) := fun hq => by
        have hbl := (Array.getElem?_eq_some_iff.1 NB).1
        have hil := (Array.getElem?_eq_some_iff.1 NI).1
        exact ⟨_, (heap_alloc_old _ _ hil).trans NI, (heap_alloc_old _ _ hbl).trans NB, rfl, NBE.out.alloc NBE.out.size _, NOM.out (by rw [← HCV.out]; exact hq)⟩
      cases q1 : (r0 == r) with
      | false =>
        have REL := hidI (FIN.out (fun e => by rw [e] at q1; simp at q1))
        clear FIN NOM
        go_wp2
        go_roundg ((leftOf es (seen.push y.born)).size)
        case rel => exact REL.out
        case measure => have := LESS.out; have := HK.out; omega
      | true =>
        by_cases q2 : 1 < c
        · have q2i : (1 : Int) < (c : Int) := by omega
          have HV : Hid (twK L r) := ⟨n0, by rw [← eq_of_beq q1, ← HCV.out]; omega⟩
          clear FIN NOM
          go_wp2
          go_ret
          exact ⟨⟨true, rfl, ⟨fun _ => HV.out, fun _ => rfl⟩⟩, NBE.out.alloc NBE.out.size _⟩
        · have q2i : ¬ (1 : Int) < (c : Int) := by omega
          have REL := hidI (FIN.out (fun _ => by omega))
          clear FIN NOM
          go_wp2
          go_roundg ((leftOf es (seen.push y.born)).size)
          case rel => exact REL.out
          case measure => have := LESS.out; have := HK.out; omega
end Go.Proofs.Ytdbpknmoacjodaa
namespace Go.Proofs.Ytdbpknmoacjodaa
open Go.RowKit Go.PlainAid

set_option maxRecDepth 100000 in
set_option maxHeartbeats 1600000 in
theorem isMember_any (x : Ex) (w : World) : Calls Try.prog 162 #[.agg #[.int .i64 x.kind, .int .i64 x.num, .string x.name, .string x.field, .int .i64 x.l, .int .i64 x.r]] w fun e w' => e = .returned (.bool (x.kind == 4 || x.kind == 5)) ∧ Below w.heap.size w w' := by
  have HB : Hid (Below w.heap.size w (w.alloc (.cells #[.int .i64 x.kind, .int .i64 x.num, .string x.name, .string x.field, .int .i64 x.l, .int .i64 x.r] 96))) := (Below.refl _ _).alloc (Nat.le_refl _) _
  cases k4 : (x.kind == 4) with
  | true =>
    go_enter Try.func162, Try.ntmps162
    go_wp2
    go_ret
    exact ⟨rfl, HB.out⟩
  | false =>
    cases k5 : (x.kind == 5) with
    | true =>
      go_enter Try.func162, Try.ntmps162
      go_wp2
      go_ret
      exact ⟨rfl, HB.out⟩
    | false =>
      go_enter Try.func162, Try.ntmps162
      go_wp2
      go_ret
      exact ⟨rfl, HB.out⟩
end Go.Proofs.Ytdbpknmoacjodaa
namespace Go.Proofs.Ytdbpknmoacjodaa
open Go.RowKit Go.PlainAid Go.Sort

def hB (L : List (Int × ByteArray)) (r : Int) (n : ByteArray) : Bool := decide (0 < cnt L (r, n))
def unI (L : List (Int × ByteArray)) (x : Ep) : Bool := (x.kind == 1 && !(x.loc.toList == dN)) && !hB L 1 x.loc
def mxI (L : List (Int × ByteArray)) (x : Ex) : Bool := (x.kind == 4 || x.kind == 5) && !hB L 3 x.name
def seI (L : List (Int × ByteArray)) (x : Ep) : Bool := x.kind == 1 && hB L 3 x.loc
def ssI (L : List (Int × ByteArray)) (x : Sm) : Bool := x.kind == 3 && hB L 3 x.name
def sxI (L : List (Int × ByteArray)) (x : Ex) : Bool := (x.kind == 2 || x.kind == 3) && hB L 3 x.name
theorem any_first {α : Type} {f : α → Bool} {l : List α} {j : Nat} {x : α} (h : l[j]? = some x) (hf : f x = true) : l.any f = true := List.any_eq_true.2 ⟨x, List.mem_of_getElem? h, hf⟩
theorem any_snoc {α : Type} {f : α → Bool} {l : List α} {j : Nat} {x : α} (h : l[j]? = some x) (h0 : (l.take j).any f = false) (hf : f x = false) : (l.take (j + 1)).any f = false := by
  rw [take_snoc h, List.any_append, h0, Bool.false_or, List.any_cons, hf]
  rfl
def RoleN (r : Int) (n : ByteArray) : Prop := RoleOk (r, n)
theorem roleN {r : Int} {n : ByteArray} (h1 : 1 ≤ r) (h3 : r ≤ 3) (hn : n.size ≤ maxLen) : RoleOk (r, n) := ⟨h1, h3, hn⟩
theorem blk_after {w w' : World} {k : Nat} {o : Obj} (h : w.heap[k]? = some o) (hb : Below w.heap.size w w') : w'.heap[k]? = some o := (hb.block k (Array.getElem?_eq_some_iff.1 h).1).trans h
set_option maxRecDepth 100000 in
set_option maxHeartbeats 3200000 in
theorem hasUnbound_any (b : Nat) (L : List (Int × ByteArray)) (a : Option Addr) (cap : Nat) (l : List Ep) (w : World) (h : CntW w b L) (hr : RowAt w a epL 4 l) (hl : l.length ≤ 10000) (hn : ∀ x ∈ l, x.loc.size ≤ maxLen) :
    Calls Try.prog 101 #[.map (some b), .slice a l.length cap] w fun e w' => e = .returned (.bool (l.any (unI L))) ∧ Below w.heap.size w w' := by
  have CW := hidI h
  have HR := hidI hr
  have HN := hidI hn
  clear h hr hn
  go_enter Try.func101, Try.ntmps101
  go_wp2
  go_loopg [9] l.length (fun k i wr => ∃ j : Nat, i = .int .i64 j ∧ j + k = l.length ∧ (l.take j).any (unI L) = false ∧ Below w.heap.size w wr)
  case atStart => exact ⟨0, rfl, by omega, rfl, Below.refl _ _⟩
  case round =>
    obtain ⟨j, rfl, hj, hno, hbe⟩ := hrel
    have HNO := hidI hno
    have HBE := hidI hbe
    clear hno hbe
    by_cases hlt : j < l.length
    · have hlti : (j : Int) < (l.length : Int) := by omega
      obtain ⟨x, hx⟩ : ∃ x, l[j]? = some x := ⟨_, List.getElem?_eq_getElem hlt⟩
      obtain ⟨bb, off, rfl, hc⟩ := (HR.out.later HBE.out).get hx
      have HX := hidI hx
      have NS := hidI (HN.out x (List.mem_of_getElem? HX.out))
      have d0 := hc 0 _ rfl
      have d1 := hc 1 _ rfl
      have d2 := hc 2 _ rfl
      have d3 := hc 3 _ rfl
      simp only [Nat.add_zero] at d0
      clear hc hx
      obtain ⟨j1, hj1⟩ : ∃ j1, j1 = j + 1 := ⟨_, rfl⟩
      have ej : (j : Int) + 1 = (j1 : Int) := by omega
      have FIN : Hid (∀ w' : World, unI L x = false → Below wr.heap.size wr w' → ∃ j' : Nat, Value.int .i64 (j1 : Int) = .int .i64 (j' : Int) ∧ j' + (gk - 1) = l.length ∧ (l.take j').any (unI L) = false ∧ Below w.heap.size w w') := fun w' h1 h2 => ⟨j1, rfl, by omega, by rw [hj1]; exact any_snoc HX.out HNO.out h1, HBE.out.trans (h2.mono HBE.out.size)⟩
      clear hj1
      go_upto_region 4 with fail
      refine world_anyI (R := fun W => Below wr.heap.size wr W ∧ W.heap[wr.heap.size]? = some (.cells (epL x).toArray 79 (0, 0))) ⟨(Below.refl _ _).alloc (Nat.le_refl _) _, heap_alloc_new wr _⟩ ?_
      have CWR := hidI (CW.out.kept ((HBE.out.block _ CW.out.lt)))
      obtain ⟨bs, hbs⟩ : ∃ bs, bs = wr.heap.size := ⟨_, rfl⟩
      rw [← hbs]
      have HBS := hidI hbs
      clear d0 d1 d2 d3 hbs
      rintro W2 ⟨hb2, hx2⟩
      rw [HBS.out] at hb2
      have HB2 := hidI hb2
      have CW2 := hidI (CWR.out.kept (hb2.block _ CWR.out.lt))
      obtain ⟨e0, e1, e2, e3, ef⟩ := four_of hx2
      have hlt2 := (Array.getElem?_eq_some_iff.1 hx2).1
      clear hb2 hx2
      cases k1 : (x.kind == 1) with
      | true =>
        cases kd : (x.loc.toList == dN) with
        | true =>
          have REL := hidI (FIN.out W2 (by rw [unI, k1, kd]; rfl) HB2.out)
          clear FIN
          go_wp2
          go_roundg (gk - 1)
          case rel => exact REL.out
          case measure => omega
        | false =>
          cases hv : hB L 1 x.loc with
          | true =>
            have REL := hidI (FIN.out W2 (by rw [unI, k1, kd, hv]; rfl) HB2.out)
            clear FIN
            go_wp2_with (first | (go_at_call 160; refine (has_any b L 1 x.loc _ CW2.out (roleN (by decide) (by decide) NS.out)).mono ?_; rintro e w' ⟨rfl, hw⟩; rw [hw]; clear hw w'; change hB L 1 x.loc = _ at hv; rw [show decide (0 < cnt L (1, x.loc)) = hB L 1 x.loc from rfl, hv]))
            go_roundg (gk - 1)
            case rel => exact REL.out
            case measure => omega
          | false =>
            have HV : Hid (l.any (unI L) = true) := any_first HX.out (by rw [unI, k1, kd, hv]; rfl)
            clear FIN
            go_wp2_with (first | (go_at_call 160; refine (has_any b L 1 x.loc _ CW2.out (roleN (by decide) (by decide) NS.out)).mono ?_; rintro e w' ⟨rfl, hw⟩; rw [hw]; clear hw w'; change hB L 1 x.loc = _ at hv; rw [show decide (0 < cnt L (1, x.loc)) = hB L 1 x.loc from rfl, hv]))
            go_ret
            exact ⟨ret_bool HV.out.symm, HBE.out.trans (HB2.out.mono HBE.out.size)⟩
      | false =>
        have REL := hidI (FIN.out W2 (by rw [unI, k1]; rfl) HB2.out)
        clear FIN
        go_wp2
        go_roundg (gk - 1)
        case rel => exact REL.out
        case measure => omega
    · have hlti : ¬ (j : Int) < (l.length : Int) := by omega
      have hjl : l.take j = l := List.take_of_length_le (by omega)
      rw [hjl] at HNO
      go_wp2
      go_ret
      exact ⟨ret_bool HNO.out.symm, HBE.out⟩
set_option maxRecDepth 100000 in
set_option maxHeartbeats 3200000 in
theorem hasMember_any (b : Nat) (L : List (Int × ByteArray)) (a : Option Addr) (cap : Nat) (l : List Ex) (w : World) (h : CntW w b L) (hr : RowAt w a exL 6 l) (hl : l.length ≤ 10000) (hn : ∀ x ∈ l, x.name.size ≤ maxLen) :
    Calls Try.prog 103 #[.map (some b), .slice a l.length cap] w fun e w' => e = .returned (.bool (l.any (mxI L))) ∧ Below w.heap.size w w' := by
  have CW := hidI h
  have HR := hidI hr
  have HN := hidI hn
  clear h hr hn
  go_enter Try.func103, Try.ntmps103
  go_wp2
  go_loopg [9] l.length (fun k i wr => ∃ j : Nat, i = .int .i64 j ∧ j + k = l.length ∧ (l.take j).any (mxI L) = false ∧ Below w.heap.size w wr)
  case atStart => exact ⟨0, rfl, by omega, rfl, Below.refl _ _⟩
  case round =>
    obtain ⟨j, rfl, hj, hno, hbe⟩ := hrel
    have HNO := hidI hno
    have HBE := hidI hbe
    clear hno hbe
    by_cases hlt : j < l.length
    · have hlti : (j : Int) < (l.length : Int) := by omega
      obtain ⟨x, hx⟩ : ∃ x, l[j]? = some x := ⟨_, List.getElem?_eq_getElem hlt⟩
      obtain ⟨bb, off, rfl, hc⟩ := (HR.out.later HBE.out).get hx
      have HX := hidI hx
      have NS := hidI (HN.out x (List.mem_of_getElem? HX.out))
      have d0 := hc 0 _ rfl
      have d1 := hc 1 _ rfl
      have d2 := hc 2 _ rfl
      have d3 := hc 3 _ rfl
      have d4 := hc 4 _ rfl
      have d5 := hc 5 _ rfl
      simp only [Nat.add_zero] at d0
      clear hc hx
      obtain ⟨j1, hj1⟩ : ∃ j1, j1 = j + 1 := ⟨_, rfl⟩
      have ej : (j : Int) + 1 = (j1 : Int) := by omega
      have FIN : Hid (∀ w' : World, mxI L x = false → Below wr.heap.size wr w' → ∃ j' : Nat, Value.int .i64 (j1 : Int) = .int .i64 (j' : Int) ∧ j' + (gk - 1) = l.length ∧ (l.take j').any (mxI L) = false ∧ Below w.heap.size w w') := fun w' h1 h2 => ⟨j1, rfl, by omega, by rw [hj1]; exact any_snoc HX.out HNO.out h1, HBE.out.trans (h2.mono HBE.out.size)⟩
      clear hj1
      go_upto_region 4 with fail
      refine world_anyI (R := fun W => Below wr.heap.size wr W ∧ W.heap[wr.heap.size]? = some (.cells (exL x).toArray 96 (0, 0))) ⟨(Below.refl _ _).alloc (Nat.le_refl _) _, heap_alloc_new wr _⟩ ?_
      have CWR := hidI (CW.out.kept ((HBE.out.block _ CW.out.lt)))
      obtain ⟨bs, hbs⟩ : ∃ bs, bs = wr.heap.size := ⟨_, rfl⟩
      rw [← hbs]
      have HBS := hidI hbs
      clear d0 d1 d2 d3 d4 d5 hbs
      rintro W2 ⟨hb2, hx2⟩
      rw [HBS.out] at hb2
      have HB2 := hidI hb2
      have CW2 := hidI (CWR.out.kept (hb2.block _ CWR.out.lt))
      obtain ⟨e0, e1, e2, e3, e4, e5, ef⟩ := six_of hx2
      have hlt2 := (Array.getElem?_eq_some_iff.1 hx2).1
      clear hb2
      go_wp2_with fail
      refine (isMember_any x _).mono ?_
      rintro e W3 ⟨rfl, hb3⟩
      have hx3 := blk_after hx2 hb3
      have HB3 := hidI (HB2.out.trans (hb3.mono HB2.out.size))
      have CW3 := hidI (CW2.out.kept (hb3.block _ CW2.out.lt))
      clear e0 e1 e2 e3 e4 e5 ef hlt2 hb3
      obtain ⟨e0, e1, e2, e3, e4, e5, ef⟩ := six_of hx3
      have hlt3 := (Array.getElem?_eq_some_iff.1 hx3).1
      clear hx2 hx3
      cases kb : (x.kind == 4 || x.kind == 5) with
      | true =>
        cases hv : hB L 3 x.name with
        | true =>
          have REL := hidI (FIN.out W3 (by rw [mxI, kb, hv]; rfl) HB3.out)
          clear FIN
          go_wp2_with (first | (go_at_call 160; refine (has_any b L 3 x.name _ CW3.out (roleN (by decide) (by decide) NS.out)).mono ?_; rintro e w' ⟨rfl, hw⟩; rw [hw]; clear hw w'; change hB L 3 x.name = _ at hv; rw [show decide (0 < cnt L (3, x.name)) = hB L 3 x.name from rfl, hv]))
          go_roundg (gk - 1)
          case rel => exact REL.out
          case measure => omega
        | false =>
          have HV : Hid (l.any (mxI L) = true) := any_first HX.out (by rw [mxI, kb, hv]; rfl)
          clear FIN
          go_wp2_with (first | (go_at_call 160; refine (has_any b L 3 x.name _ CW3.out (roleN (by decide) (by decide) NS.out)).mono ?_; rintro e w' ⟨rfl, hw⟩; rw [hw]; clear hw w'; change hB L 3 x.name = _ at hv; rw [show decide (0 < cnt L (3, x.name)) = hB L 3 x.name from rfl, hv]))
          go_ret
          exact ⟨ret_bool HV.out.symm, HBE.out.trans (HB3.out.mono HBE.out.size)⟩
      | false =>
        have REL := hidI (FIN.out W3 (by rw [mxI, kb]; rfl) HB3.out)
        clear FIN
        go_wp2
        go_roundg (gk - 1)
        case rel => exact REL.out
        case measure => omega
    · have hlti : ¬ (j : Int) < (l.length : Int) := by omega
      have hjl : l.take j = l := List.take_of_length_le (by omega)
      rw [hjl] at HNO
      go_wp2
      go_ret
      exact ⟨ret_bool HNO.out.symm, HBE.out⟩
end Go.Proofs.Ytdbpknmoacjodaa
namespace Go.Proofs.Ytdbpknmoacjodaa
open Go.RowKit Go.PlainAid

def cntB (l : List ByteArray) (n : ByteArray) : Nat := @List.count ByteArray instBEqOfDecidableEq n l
theorem cntB_pos {l : List ByteArray} {n : ByteArray} : 0 < cntB l n ↔ n ∈ l := count_pos_gen l n
theorem cntB_append (l1 l2 : List ByteArray) (n : ByteArray) : cntB (l1 ++ l2) n = cntB l1 n + cntB l2 n := count_append_gen l1 l2 n
theorem cntB_more (l : List ByteArray) (x n : ByteArray) : cntB (l ++ [x]) n = cntB l n + if x = n then 1 else 0 := count_more l x n
theorem cnt_append (l1 l2 : List (Int × ByteArray)) (p : Int × ByteArray) : cnt (l1 ++ l2) p = cnt l1 p + cnt l2 p := count_append_gen l1 l2 p
theorem cnt_more (l : List (Int × ByteArray)) (x p : Int × ByteArray) : cnt (l ++ [x]) p = cnt l p + if x = p then 1 else 0 := count_more l x p
theorem cnt_nil (p : Int × ByteArray) : cnt [] p = 0 := rfl
theorem cntB_nil (n : ByteArray) : cntB [] n = 0 := rfl
theorem cnt_cons (l : List (Int × ByteArray)) (x p : Int × ByteArray) : cnt (x :: l) p = cnt l p + if x = p then 1 else 0 := by
  have := cnt_append [x] l p
  have h1 := cnt_more [] x p
  rw [List.nil_append, cnt_nil, Nat.zero_add] at h1
  rw [List.singleton_append, h1] at this
  omega
theorem cntB_cons (l : List ByteArray) (x n : ByteArray) : cntB (x :: l) n = cntB l n + if x = n then 1 else 0 := by
  have := cntB_append [x] l n
  have h1 := cntB_more [] x n
  rw [List.nil_append, cntB_nil, Nat.zero_add] at h1
  rw [List.singleton_append, h1] at this
  omega
theorem tw_take {l : List ByteArray} {n : ByteArray} : ∀ k, k ≤ l.length → 2 ≤ cntB (l.take k) n → ∃ i, i < k ∧ inL (l.take i) (l.getD i sNone) = true := by
  intro k
  induction k with
  | zero => intro _ h; rw [List.take_zero, cntB_nil] at h; omega
  | succ k ih =>
    intro hk h
    have hx : l[k]? = some l[k] := List.getElem?_eq_getElem hk
    rw [take_snoc hx, cntB_more] at h
    by_cases h2 : 2 ≤ cntB (l.take k) n
    · obtain ⟨i, hi, hin⟩ := ih (by omega) h2
      exact ⟨i, by omega, hin⟩
    · split at h
      · rename_i e
        refine ⟨k, by omega, inL_iff.2 ?_⟩
        rw [show l.getD k sNone = l[k] by simp [List.getD, hx], e]
        exact cntB_pos.1 (by omega)
      · omega
theorem twB_iff {l : List ByteArray} : twB l = true ↔ ∃ n, 2 ≤ cntB l n := by
  constructor
  · intro h
    rw [twB, List.any_eq_true] at h
    obtain ⟨k, hk, hin⟩ := h
    rw [List.mem_range] at hk
    have hx : l[k]? = some l[k] := List.getElem?_eq_getElem hk
    rw [show l.getD k sNone = l[k] by simp [List.getD, hx]] at hin
    have h1 := cntB_pos.2 (inL_iff.1 hin)
    refine ⟨l[k], ?_⟩
    have e : l = l.take (k + 1) ++ l.drop (k + 1) := (List.take_append_drop _ _).symm
    have : cntB l l[k] = cntB (l.take (k + 1)) l[k] + cntB (l.drop (k + 1)) l[k] := by
      rw [← cntB_append, ← e]
    rw [take_snoc hx, cntB_more, if_pos rfl] at this
    omega
  · rintro ⟨n, hn⟩
    obtain ⟨i, hi, hin⟩ := tw_take (n := n) l.length (Nat.le_refl _) (by rw [List.take_length]; exact hn)
    exact twB_at hi hin
def spcN (l : List Im) : List ByteArray := (l.filter fun x => x.first.toList == [42]).map (·.loc)
theorem kI_cnt (l : List Im) (n : ByteArray) : cnt (kI l) (1, n) = cntB (imN l) n ∧ cnt (kI l) (2, n) = 0 ∧ cnt (kI l) (3, n) = cntB (spcN l) n := by
  induction l with
  | nil => exact ⟨rfl, rfl, rfl⟩
  | cons x l ih =>
    have e : kI (x :: l) = ((1, x.loc) :: if x.first.toList == [42] then [(3, x.loc)] else []) ++ kI l := rfl
    have e1 : imN (x :: l) = x.loc :: imN l := rfl
    rw [e, e1, cnt_append, cnt_append, cnt_append, ih.1, ih.2.1, ih.2.2, cntB_cons]
    have e3 : spcN (x :: l) = if x.first.toList == [42] then x.loc :: spcN l else spcN l := by
      rw [spcN, List.filter_cons]
      split <;> rfl
    rw [e3]
    generalize (x.first.toList == [42]) = b
    cases b <;> simp [cnt_cons, cnt_nil, cntB_cons] <;> omega
theorem kS_cnt (l : List Sm) (n : ByteArray) : cnt (kS l) (1, n) = cntB ((l.filter decI).map (·.name)) n ∧ cnt (kS l) (2, n) = 0 ∧ cnt (kS l) (3, n) = 0 := by
  rw [kS]
  induction l.filter decI with
  | nil => exact ⟨rfl, rfl, rfl⟩
  | cons x l ih =>
    rw [List.map_cons, List.map_cons, cnt_cons, cnt_cons, cnt_cons, ih.1, ih.2.1, ih.2.2, cntB_cons]
    simp
theorem kE_cnt (l : List Ep) (n : ByteArray) : cnt (kE l) (1, n) = 0 ∧ cnt (kE l) (2, n) = cntB (epN l) n ∧ cnt (kE l) (3, n) = 0 := by
  rw [kE, epN]
  induction l.filter (fun x => !(x.kind == 3)) with
  | nil => exact ⟨rfl, rfl, rfl⟩
  | cons x l ih =>
    rw [List.map_cons, List.map_cons, cnt_cons, cnt_cons, cnt_cons, ih.1, ih.2.1, ih.2.2, cntB_cons]
    simp
theorem dec_same {st : List Sm} (h : FairS st) : st.filter decI = st.filter decB := by
  refine List.filter_congr fun s hs => ?_
  have hf := h s hs
  rw [decI, decB]
  cases hd : (s.name.toList == dN) with
  | true =>
    have hk := hf (by simpa using hd)
    rw [hk]
    rfl
  | false => simp [Bool.or_comm]
theorem keys_1 {m : Md} (h : FairS m.st) (n : ByteArray) : cnt (keysI m) (1, n) = cntB (declS m) n := by
  rw [keysI, cnt_append, cnt_append, (kI_cnt _ _).1, (kS_cnt _ _).1, (kE_cnt _ _).1, dec_same h, declS, cntB_append, stN]
  omega
theorem keys_2 (m : Md) (n : ByteArray) : cnt (keysI m) (2, n) = cntB (epN m.ep) n := by
  rw [keysI, cnt_append, cnt_append, (kI_cnt _ _).2.1, (kS_cnt _ _).2.1, (kE_cnt _ _).2.1]
  omega
theorem keys_3 (m : Md) (n : ByteArray) : cnt (keysI m) (3, n) = cntB (spcN m.im) n := by
  rw [keysI, cnt_append, cnt_append, (kI_cnt _ _).2.2, (kS_cnt _ _).2.2, (kE_cnt _ _).2.2]
  omega
theorem tw1 {m : Md} (h : FairS m.st) : twK (keysI m) 1 ↔ twB (declS m) = true := by
  rw [twB_iff]
  exact ⟨fun ⟨n, hn⟩ => ⟨n, by rw [← keys_1 h]; exact hn⟩, fun ⟨n, hn⟩ => ⟨n, by rw [keys_1 h]; exact hn⟩⟩
theorem tw2 (m : Md) : twK (keysI m) 2 ↔ twB (epN m.ep) = true := by
  rw [twB_iff]
  exact ⟨fun ⟨n, hn⟩ => ⟨n, by rw [← keys_2]; exact hn⟩, fun ⟨n, hn⟩ => ⟨n, by rw [keys_2]; exact hn⟩⟩
theorem hB_1 {m : Md} (h : FairS m.st) (n : ByteArray) : hB (keysI m) 1 n = inL (declS m) n := by
  rw [hB, keys_1 h, Bool.eq_iff_iff, decide_eq_true_eq, cntB_pos, inL_iff]
theorem hB_3 {m : Md} (hno : twB (declS m) = false) (n : ByteArray) : hB (keysI m) 3 n = spB m.im n := by
  have hone : ∀ (i j : Nat) (x y : Im), m.im[i]? = some x → m.im[j]? = some y → i < j → x.loc = n → y.loc ≠ n := by
    intro i j x y hi hj hij hx hy
    have : twB (declS m) = true := by
      rw [twB_iff]
      refine ⟨n, ?_⟩
      rw [declS, cntB_append]
      have e : imN m.im = imN (m.im.take j) ++ imN (m.im.drop j) := by rw [imN, imN, imN, ← List.map_append, List.take_append_drop]
      rw [e, cntB_append]
      have h1 : 0 < cntB (imN (m.im.take j)) n := cntB_pos.2 (List.mem_map.2 ⟨x, List.mem_of_getElem? (i := i) (by rw [List.getElem?_take, if_pos hij]; exact hi), hx⟩)
      have h2 : 0 < cntB (imN (m.im.drop j)) n := cntB_pos.2 (List.mem_map.2 ⟨y, List.mem_of_getElem? (i := 0) (by rw [List.getElem?_drop]; exact hj), hy⟩)
      omega
    rw [hno] at this
    cases this
  rw [hB, keys_3, Bool.eq_iff_iff, decide_eq_true_eq, cntB_pos]
  have hmem : n ∈ spcN m.im ↔ ∃ x ∈ m.im, (x.first.toList == [42]) = true ∧ x.loc = n := by
    rw [spcN, List.mem_map]
    constructor
    · rintro ⟨x, hx, e⟩
      rw [List.mem_filter] at hx
      exact ⟨x, hx.1, hx.2, e⟩
    · rintro ⟨x, hx, e1, e2⟩
      exact ⟨x, List.mem_filter.2 ⟨hx, e1⟩, e2⟩
  rw [hmem, spB]
  cases hf : m.im.find? (fun x => x.loc.toList == n.toList) with
  | none =>
    rw [List.find?_eq_none] at hf
    constructor
    · rintro ⟨x, hx, _, e⟩
      exact absurd ((toList_eq_iff _ _).2 e) (hf x hx)
    · intro h
      cases h
  | some y =>
    obtain ⟨hy, i, hi, hiy, hmin⟩ := List.find?_eq_some_iff_getElem.1 hf
    have hyn := (toList_eq_iff _ _).1 hy
    constructor
    · rintro ⟨x, hx, e1, e2⟩
      obtain ⟨j, hj, rfl⟩ := List.mem_iff_getElem.1 hx
      rcases Nat.lt_trichotomy i j with h | h | h
      · exact absurd e2 (hone i j y _ (by rw [List.getElem?_eq_getElem hi, hiy]) (List.getElem?_eq_getElem hj) h hyn)
      · subst h
        rw [← hiy]
        exact e1
      · exact absurd hyn (hone j i _ y (List.getElem?_eq_getElem hj) (by rw [List.getElem?_eq_getElem hi, hiy]) h e2)
    · intro h
      exact ⟨y, by rw [← hiy]; exact List.getElem_mem hi, h, hyn⟩
theorem un_same {m : Md} (h : FairS m.st) : m.ep.any (unI (keysI m)) = unB (declS m) m.ep := by
  rw [unB]
  congr 1
  funext x
  rw [unI, hB_1 h, Bool.and_assoc]
theorem sp_same {m : Md} (hno : twB (declS m) = false) : (m.ep.any (seI (keysI m)) || (m.st.any (ssI (keysI m)) || m.ex.any (sxI (keysI m)))) = (seB m.im m.ep || sxB m.im m.ex || ssB m.im m.st) := by
  have e1 : seI (keysI m) = fun x => x.kind == 1 && spB m.im x.loc := by funext x; rw [seI, hB_3 hno]
  have e2 : ssI (keysI m) = fun x => x.kind == 3 && spB m.im x.name := by funext x; rw [ssI, hB_3 hno]
  have e3 : sxI (keysI m) = fun x => (x.kind == 2 || x.kind == 3) && spB m.im x.name := by funext x; rw [sxI, hB_3 hno]
  rw [e1, e2, e3, seB, sxB, ssB, Bool.or_assoc]
  congr 1
  exact Bool.or_comm _ _
theorem mx_same {m : Md} (hno : twB (declS m) = false) : m.ex.any (mxI (keysI m)) = mxB m.im m.ex := by
  have e : mxI (keysI m) = fun x => (x.kind == 4 || x.kind == 5) && !spB m.im x.name := by funext x; rw [mxI, hB_3 hno]
  rw [e, mxB]
end Go.Proofs.Ytdbpknmoacjodaa
