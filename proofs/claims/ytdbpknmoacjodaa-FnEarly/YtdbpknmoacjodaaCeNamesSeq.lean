/-
  What impl.valueNames' iterator tells: the walk.
-/
import Derived.Test.YtdbpknmoacjodaaCeSepLoop
import Derived.Test.YtdbpknmoacjodaaCeSetMath
import Derived.Test.YtdbpknmoacjodaaCeUseMemToBoxD
import Derived.Shelf.Abstract
import Derived.Shelf.RegionOpen
import Derived.TacticsInMore
import Derived.LoopNIn
import Derived.LoopIn
import Derived.RangeFuncBound
namespace Go.Proofs.Ytdbpknmoacjodaa
open Go.RowKit Go.PlainAid Go.Shelf

def nmV (m : Md) : List ByteArray := nmSt m.st ++ nmEx m.ex
theorem fm_more {α β : Type} (p : α → Bool) (f : α → β) {l : List α} {j : Nat} {x : α} (h : l[j]? = some x) : ((l.take (j + 1)).filter p).map f = if p x = true then ((l.take j).filter p).map f ++ [f x] else ((l.take j).filter p).map f := by
  rw [take_onD h, List.filter_append]
  cases hd : p x <;> simp [hd]
theorem fm_split {α β : Type} (p : α → Bool) (f : α → β) {l : List α} {j : Nat} {x : α} (h : l[j]? = some x) (hp : p x = true) : (l.filter p).map f = ((l.take j).filter p).map f ++ f x :: ((l.drop (j + 1)).filter p).map f := by
  have e := List.take_append_drop (j + 1) l
  have h1 := congrArg (fun z => (z.filter p).map f) e
  simp only [List.filter_append, List.map_append] at h1
  rw [← h1, fm_more p f h, if_pos hp, List.append_assoc]
  rfl
theorem RowAt.same {α : Type} {w w' : World} {a : Option Addr} {f : α → List Value} {m : Nat} {l : List α} (h : RowAt w a f m l) (hs : l ≠ [] → ∀ b o, a = some ⟨b, o, none⟩ → w'.heap[b]? = w.heap[b]?) : RowAt w' a f m l := by
  by_cases hl : l = []
  · exact .inl hl
  rcases h with h | ⟨b, off, ha, hlt, hc⟩
  · exact .inl h
  · have e := hs hl b off ha
    refine .inr ⟨b, off, ha, ?_, fun j x hx i v hv => ?_⟩
    · rw [Array.getElem?_eq_getElem hlt] at e
      exact (Array.getElem?_eq_some_iff.1 e).1
    · rw [← hc j x hx i v hv]
      simp only [World.cell?, e]
structure NmH (V : Sv) (m : Md) (b : Nat) (W : World) : Prop where
  box : W.heap[b]? = some (boxD V m)
  st : RowAt W V.st.a smL 3 m.st
  ex : RowAt W V.ex.a exL 6 m.ex
def NmB (V : Sv) (m : Md) (b : Nat) (k : Nat) : Prop := k = b ∨ (m.st ≠ [] ∧ ∃ o, V.st.a = some ⟨k, o, none⟩) ∨ m.ex ≠ [] ∧ ∃ o, V.ex.a = some ⟨k, o, none⟩
theorem RowAt.lt {α : Type} {w : World} {a : Option Addr} {f : α → List Value} {m : Nat} {l : List α} (h : RowAt w a f m l) (hl : l ≠ []) {k o : Nat} (ha : a = some ⟨k, o, none⟩) : k < w.heap.size := by
  rcases h with h | ⟨b, off, hb, hlt, _⟩
  · exact absurd h hl
  · rw [hb] at ha
    cases ha
    exact hlt
theorem NmH.lt {V : Sv} {m : Md} {b : Nat} {W : World} (h : NmH V m b W) {k : Nat} (hk : NmB V m b k) : k < W.heap.size := by
  rcases hk with rfl | ⟨hl, o, ha⟩ | ⟨hl, o, ha⟩
  · exact (Array.getElem?_eq_some_iff.1 h.box).1
  · exact h.st.lt hl ha
  · exact h.ex.lt hl ha
theorem NmH.same {V : Sv} {m : Md} {b : Nat} {W W' : World} (h : NmH V m b W) (hs : ∀ k, NmB V m b k → W'.heap[k]? = W.heap[k]?) : NmH V m b W' :=
  ⟨(hs b (.inl rfl)).trans h.box, h.st.same fun hl k o e => hs k (.inr (.inl ⟨hl, o, e⟩)), h.ex.same fun hl k o e => hs k (.inr (.inr ⟨hl, o, e⟩))⟩
theorem NmH.hd {V : Sv} {m : Md} {b : Nat} {W W' : World} {C C' : Nat → Prop} (h : NmH V m b W) (hC : ∀ k, NmB V m b k → ¬ C k) (hf : Hd C W C' W') : NmH V m b W' := h.same fun k hk => hf.same k (h.lt hk) (hC k hk)
attribute [local go_sem] Oper.semAt_some
set_option maxRecDepth 100000 in
set_option maxHeartbeats 4000000 in
theorem names_seq (V : Sv) (m : Md) (b : Nat) (hls : m.st.length ≤ 1048576) (hle : m.ex.length ≤ 1048576) :
    SeqC Try.prog 189 #[.pointer (some ⟨b, 0, none⟩)] (nmV m) (NmH V m b) (NmB V m b) := fun n l J Jx C W hH hBC hJ hJx hC h0 hY => by
  refine callsIn_of_wp Try.func189 rfl trivial ?_ rfl
  simp only [Try.ntmps189, List.size_toArray, List.length_cons, List.length_nil, Nat.reduceAdd, Nat.reduceSub, Array.replicate_succ, Array.replicate_zero, List.push_toArray, List.append_toArray, List.nil_append, List.cons_append]
  have HH := hidI hH
  have HK : Hid (∀ C1 W1, Hd C W C1 W1 → NmH V m b W1) := fun C1 W1 hf => hH.hd hBC hf
  have HBC := hidI hBC
  have HC := hidI hC
  have HJ := hidI hJ
  have HJX := hidI hJx
  have HY := hidI hY
  have H0 := hidI h0
  clear hH hBC hC hJ hJx hY h0
  obtain ⟨c0, c1, c2, c3, c4, cf⟩ := five_of HH.out.box
  have F0 : Hid (Hd C W C W) := Hd.refl HC.out
  gi_wp2
  gi_loopw [10] (fun i wr => ∃ (k : Nat) (C1 : Nat → Prop), k ≤ m.st.length ∧ i = .int .i64 k ∧ Hid (Hd C W C1 wr) ∧ Hid (J (nmSt (m.st.take k)) C1 wr)) (fun i _ => (m.st.length - intOf i).toNat)
  case atStart => exact ⟨0, C, Nat.zero_le _, rfl, F0, H0⟩
  case round =>
    obtain ⟨k, C1, hk, rfl, HF, HI⟩ := hrel
    clear F0 H0 c0 c1 c2 c3 c4 cf
    by_cases hlt : k < m.st.length
    · obtain ⟨x, hx⟩ : ∃ x, m.st[k]? = some x := ⟨_, List.getElem?_eq_getElem hlt⟩
      obtain ⟨b1, off, ha, hc⟩ := (HK.out C1 wr HF.out).st.get hx
      rw [ha]
      have d0 := hc 0 _ rfl
      have d1 := hc 1 _ rfl
      have d2 := hc 2 _ rfl
      simp only [Nat.add_zero] at d0
      have MORE := hidI (fm_more (fun x : Sm => x.kind == 3) (fun x => x.name) hx)
      have SPL := hidI (fm_split (fun x : Sm => x.kind == 3) (fun x => x.name) hx)
      obtain ⟨W2, hW2⟩ : ∃ W2, W2 = wr.alloc (.cells #[.int .i64 x.kind, .string x.name, .int .i64 x.expr] 159) := ⟨_, rfl⟩
      have hb2 : Below wr.heap.size wr W2 := by rw [hW2]; exact (Below.refl _ _).alloc (Nat.le_refl _) _
      have F2 : Hid (Hd C W C1 W2) := HF.out.trans (Hd.below HF.out.lt hb2)
      have J2 : Hid (J (nmSt (m.st.take k)) C1 W2) := HJ.out _ _ _ _ HI.out fun j hj => hb2.block j (HF.out.lt j hj)
      clear hb2 hc hx ha HF HI
      cases hk3 : (x.kind == 3) with
      | true =>
        have hspl := SPL.out hk3
        have hm := MORE.out
        rw [hk3, if_pos rfl] at hm
        have HM : Hid (nmSt (m.st.take (k + 1)) = nmSt (m.st.take k) ++ [x.name]) := hm
        have HL : Hid (nmV m = nmSt (m.st.take k) ++ x.name :: (nmSt (m.st.drop (k + 1)) ++ nmEx m.ex)) := by
          show nmSt m.st ++ _ = _
          rw [show nmSt m.st = _ from hspl, List.append_assoc]
          rfl
        clear hspl hm MORE SPL
        obtain ⟨fn, tmps, assign, body, hy, hR⟩ := HY.out (n - 1) _ x.name _ C1 W2 HL.out F2.out J2.out
        have HRR := hidI hR
        clear hR
        rw [hW2] at hy
        gi_wp2
        rw [← hW2]
        refine ⟨wide_ok, HRR.out.mono ?_⟩
        rintro e W3 ⟨C2, hf2, hj⟩
        obtain ⟨bv, rfl, hj2⟩ := yield_or hj
        have F3 := hidI (F2.out.trans hf2)
        have J3 := hidI hj2
        clear hf2 hj hj2 HRR
        cases bv with
        | true =>
          have J4 : Hid (J (nmSt (m.st.take k) ++ [x.name]) C2 W3) := J3.out.elim (fun h => h.2) (fun h => by cases h.1)
          gi_wp2
          go_roundw
          case rel => exact ⟨k + 1, C2, hlt, by go_num, F3, by rw [HM.out]; exact J4⟩
          case measure => simp [intOf]; omega
        | false =>
          have J4 : Hid (Jx (nmSt (m.st.take k) ++ [x.name]) C2 W3) := J3.out.elim (fun h => by cases h.1) (fun h => h.2)
          gi_wp2
          refine bodyPost_ret (results_none rfl _ _ _) rfl ?_
          exact ⟨⟨_, rfl⟩, C2, F3.out, .inr ⟨_, ⟨nmSt (m.st.drop (k + 1)) ++ nmEx m.ex, by rw [HL.out, List.append_assoc]; rfl⟩, J4.out⟩⟩
      | false =>
        have hm := MORE.out
        rw [hk3, if_neg (by decide)] at hm
        have HM : Hid (nmSt (m.st.take (k + 1)) = nmSt (m.st.take k)) := hm
        clear hm MORE SPL HY
        gi_wp2
        refine ⟨fun f hf => (by cases hf), ?_⟩
        gi_wp2
        rw [← hW2]
        go_roundw
        case rel => exact ⟨k + 1, C1, hlt, by go_num, F2, by rw [HM.out]; exact J2⟩
        case measure => simp [intOf]; omega
    · obtain rfl : k = m.st.length := by omega
      have J1 : Hid (J (nmSt m.st) C1 wr) := by have := HI.out; rw [List.take_length] at this; exact this
      clear HI
      obtain ⟨c0, c1, c2, c3, c4, cf⟩ := five_of (HK.out C1 wr HF.out).box
      gi_wp2
      gi_loopw [28] (fun i wr => ∃ (k : Nat) (C1 : Nat → Prop), k ≤ m.ex.length ∧ i = .int .i64 k ∧ Hid (Hd C W C1 wr) ∧ Hid (J (nmSt m.st ++ nmEx (m.ex.take k)) C1 wr)) (fun i _ => (m.ex.length - intOf i).toNat)
      case atStart => exact ⟨0, C1, Nat.zero_le _, rfl, HF, by rw [show nmEx (m.ex.take 0) = [] from rfl, List.append_nil]; exact J1⟩
      case round =>
        clear c0 c1 c2 c3 c4 cf HF J1
        obtain ⟨k, C1, hk, rfl, HF, HI⟩ := hrel
        by_cases hlt : k < m.ex.length
        · obtain ⟨x, hx⟩ : ∃ x, m.ex[k]? = some x := ⟨_, List.getElem?_eq_getElem hlt⟩
          obtain ⟨b1, off, ha, hc⟩ := (HK.out C1 wr HF.out).ex.get hx
          rw [ha]
          have d0 := hc 0 _ rfl
          have d1 := hc 1 _ rfl
          have d2 := hc 2 _ rfl
          have d3 := hc 3 _ rfl
          have d4 := hc 4 _ rfl
          have d5 := hc 5 _ rfl
          simp only [Nat.add_zero] at d0
          have MORE := hidI (fm_more (fun x : Ex => x.kind == 2 || x.kind == 3) (fun x => x.name) hx)
          have SPL := hidI (fm_split (fun x : Ex => x.kind == 2 || x.kind == 3) (fun x => x.name) hx)
          obtain ⟨W2, hW2⟩ : ∃ W2, W2 = wr.alloc (.cells #[.int .i64 x.kind, .int .i64 x.num, .string x.name, .string x.field, .int .i64 x.l, .int .i64 x.r] 96) := ⟨_, rfl⟩
          have hb2 : Below wr.heap.size wr W2 := by rw [hW2]; exact (Below.refl _ _).alloc (Nat.le_refl _) _
          have F2 : Hid (Hd C W C1 W2) := HF.out.trans (Hd.below HF.out.lt hb2)
          have J2 : Hid (J (nmSt m.st ++ nmEx (m.ex.take k)) C1 W2) := HJ.out _ _ _ _ HI.out fun j hj => hb2.block j (HF.out.lt j hj)
          clear hb2 hc hx ha HF HI
          cases hk2 : (x.kind == 2) with
          | true =>
            have KT : (x.kind == 2 || x.kind == 3) = true := by rw [hk2]; rfl
            have hspl := SPL.out KT
            have hm := MORE.out
            rw [KT, if_pos rfl] at hm
            have HM : Hid (nmEx (m.ex.take (k + 1)) = nmEx (m.ex.take k) ++ [x.name]) := hm
            have HL : Hid (nmV m = (nmSt m.st ++ nmEx (m.ex.take k)) ++ x.name :: nmEx (m.ex.drop (k + 1))) := by
              show _ ++ nmEx m.ex = _
              rw [show nmEx m.ex = _ from hspl, List.append_assoc]
              rfl
            clear hspl hm MORE SPL KT
            obtain ⟨fn, tmps, assign, body, hy, hR⟩ := HY.out (n - 1) _ x.name _ C1 W2 HL.out F2.out J2.out
            have HRR := hidI hR
            clear hR
            rw [hW2] at hy
            gi_wp2
            rw [← hW2]
            refine ⟨wide_ok, HRR.out.mono ?_⟩
            rintro e W3 ⟨C2, hf2, hj⟩
            obtain ⟨bv, rfl, hj2⟩ := yield_or hj
            have F3 := hidI (F2.out.trans hf2)
            have J3 := hidI hj2
            clear hf2 hj hj2 HRR
            cases bv with
            | true =>
              have J4 : Hid (J (nmSt m.st ++ nmEx (m.ex.take k) ++ [x.name]) C2 W3) := J3.out.elim (fun h => h.2) (fun h => by cases h.1)
              gi_wp2
              go_roundw
              case rel => exact ⟨k + 1, C2, hlt, by go_num, F3, by rw [HM.out, ← List.append_assoc]; exact J4⟩
              case measure => simp [intOf]; omega
            | false =>
              have J4 : Hid (Jx (nmSt m.st ++ nmEx (m.ex.take k) ++ [x.name]) C2 W3) := J3.out.elim (fun h => by cases h.1) (fun h => h.2)
              gi_wp2
              refine bodyPost_ret (results_none rfl _ _ _) rfl ?_
              exact ⟨⟨_, rfl⟩, C2, F3.out, .inr ⟨_, ⟨nmEx (m.ex.drop (k + 1)), by rw [HL.out, List.append_assoc]; rfl⟩, J4.out⟩⟩
          | false =>
            cases hk3 : (x.kind == 3) with
            | true =>
              have KT : (x.kind == 2 || x.kind == 3) = true := by rw [hk2, hk3]; rfl
              have hspl := SPL.out KT
              have hm := MORE.out
              rw [KT, if_pos rfl] at hm
              have HM : Hid (nmEx (m.ex.take (k + 1)) = nmEx (m.ex.take k) ++ [x.name]) := hm
              have HL : Hid (nmV m = (nmSt m.st ++ nmEx (m.ex.take k)) ++ x.name :: nmEx (m.ex.drop (k + 1))) := by
                show _ ++ nmEx m.ex = _
                rw [show nmEx m.ex = _ from hspl, List.append_assoc]
                rfl
              clear hspl hm MORE SPL KT
              obtain ⟨fn, tmps, assign, body, hy, hR⟩ := HY.out (n - 1) _ x.name _ C1 W2 HL.out F2.out J2.out
              have HRR := hidI hR
              clear hR
              rw [hW2] at hy
              gi_wp2
              rw [← hW2]
              refine ⟨wide_ok, HRR.out.mono ?_⟩
              rintro e W3 ⟨C2, hf2, hj⟩
              obtain ⟨bv, rfl, hj2⟩ := yield_or hj
              have F3 := hidI (F2.out.trans hf2)
              have J3 := hidI hj2
              clear hf2 hj hj2 HRR
              cases bv with
              | true =>
                have J4 : Hid (J (nmSt m.st ++ nmEx (m.ex.take k) ++ [x.name]) C2 W3) := J3.out.elim (fun h => h.2) (fun h => by cases h.1)
                gi_wp2
                go_roundw
                case rel => exact ⟨k + 1, C2, hlt, by go_num, F3, by rw [HM.out, ← List.append_assoc]; exact J4⟩
                case measure => simp [intOf]; omega
              | false =>
                have J4 : Hid (Jx (nmSt m.st ++ nmEx (m.ex.take k) ++ [x.name]) C2 W3) := J3.out.elim (fun h => by cases h.1) (fun h => h.2)
                gi_wp2
                refine bodyPost_ret (results_none rfl _ _ _) rfl ?_
                exact ⟨⟨_, rfl⟩, C2, F3.out, .inr ⟨_, ⟨nmEx (m.ex.drop (k + 1)), by rw [HL.out, List.append_assoc]; rfl⟩, J4.out⟩⟩
            | false =>
              have hm := MORE.out
              rw [hk2, hk3, if_neg (by decide)] at hm
              have HM : Hid (nmEx (m.ex.take (k + 1)) = nmEx (m.ex.take k)) := hm
              clear hm MORE SPL HY
              gi_wp2
              refine ⟨fun f hf => (by cases hf), ?_⟩
              gi_wp2
              rw [← hW2]
              go_roundw
              case rel => exact ⟨k + 1, C1, hlt, by go_num, F2, by rw [HM.out]; exact J2⟩
              case measure => simp [intOf]; omega
        · obtain rfl : k = m.ex.length := by omega
          have J1 : Hid (J (nmV m) C1 wr) := by have := HI.out; rw [List.take_length] at this; exact this
          clear HI
          gi_wp2
          go_end0
          exact ⟨⟨_, rfl⟩, C1, HF.out, .inl J1.out⟩
theorem enters_names : ∀ args w, (callFunc 189 args).run Try.prog w = .ok (.enter 189 args) w := enters_of Try.func189 (by kernel_rfl) rfl
set_option maxHeartbeats 1600000 in
theorem valueNames_any (V : Sv) (m : Md) (w : World) : Calls Try.prog 161 #[modD V m] w fun e w' => e = .returned (.func (.func 189) #[] #[.pointer (some ⟨w.heap.size, 0, none⟩)]) ∧ w' = w.alloc (boxD V m) := by
  unfold modD
  go_enter Try.func161, Try.ntmps161
  go_wp2
  go_ret
  exact ⟨rfl, rfl⟩
end Go.Proofs.Ytdbpknmoacjodaa
