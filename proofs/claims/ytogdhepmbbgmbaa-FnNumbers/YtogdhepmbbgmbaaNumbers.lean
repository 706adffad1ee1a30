/-
  laws.FnNumbers returns true at every code: the walks, one for each range of the number that is drawn.
-/
import Derived.Test.YtogdhepmbbgmbaaSpoil
import Derived.Test.YtogdhepmbbgmbaaNumbersMath
import Derived.Test.YtogdhepmbbgmbaaReadVar
import Derived.Test.YtogdhepmbbgmbaaReadDec
import Derived.Test.YtogdhepmbbgmbaaUnhex
namespace Go.Proofs.Ytogdhepmbbgmbaa
open Go.RowKit Go.PlainAid

theorem hide_it {p : Prop} (h : p) : Hid p := h

set_option linter.unusedVariables false in
set_option maxHeartbeats 3200000 in
theorem numbers_A1z (S : Src) (hS : S.ok) (w : World) (hc : CodeW S w) (hl : S.lim ≤ w.heap.size) (n : Int) (V T F D H R : ByteArray) 
    (hVs : V.size ≤ 7) (hTs : T.size ≤ 40) (hFs : F.size ≤ 7) (h0 : 0 ≤ n) (h1 : n < 1000000000) (hV : V.toList.isEmpty = false) (hF : F.toList.isEmpty = false) (hF7 : F.size = 7)
    (cn : drawVar S = n) (cT : strOfNums (drawHex S) = T) (cR : drawRv S = R)
    (cV : ∀ w, Calls Try.prog 15 #[.int .i64 n] w fun e w' => e = .returned (.string V) ∧ Below w.heap.size w w')
    (cRV : ∀ w, Calls Try.prog 16 #[.string (V ++ T)] w fun e w' => e = .returned (.tuple #[.int .i64 n, .int .i64 V.size]) ∧ w' = w)
    (cF : ∀ w, Calls Try.prog 17 #[.int .i64 n, .int .i64 7] w fun e w' => e = .returned (.string F) ∧ Below w.heap.size w w')
    (cRF : ∀ w, Calls Try.prog 18 #[.string (F ++ T), .int .i64 7] w fun e w' => e = .returned (.tuple #[.int .i64 n, .bool true]) ∧ w' = w)
    (cD : ∀ w, Calls Try.prog 20 #[.int .i64 n] w fun e w' => e = .returned (.string D) ∧ Below w.heap.size w w')
    (cRD : ∀ w, Calls Try.prog 19 #[.string D] w fun e w' => e = .returned (.tuple #[.int .i64 n, .bool true]) ∧ w' = w)
    (cH : ∀ w, Calls Try.prog 22 #[.string T] w fun e w' => e = .returned (.string H) ∧ Below w.heap.size w w')
    (cU : ∀ w, Calls Try.prog 21 #[.string H] w fun e w' => e = .returned (.tuple #[.string T, .bool true]) ∧ Below w.heap.size w w')
    (cRR : ∀ w, Calls Try.prog 16 #[.string R] w fun e w' => e = .returned (.tuple #[.int .i64 0, .int .i64 0]) ∧ w' = w)
    : Calls Try.prog 3 #[.slice S.a S.len S.cap] w fun e w' => e = .returned (.bool true) ∧ Below w.heap.size w w' := by
  have hlen := hS.1
  have hbig : decide ((1048576 : Int) < S.len) = false := by simp; omega
  have CN : Hid (drawVar S = n) := cn
  have CT : Hid (strOfNums (drawHex S) = T) := cT
  have CR : Hid (drawRv S = R) := cR
  have CV : Hid (∀ w, Calls Try.prog 15 #[.int .i64 n] w fun e w' => e = .returned (.string V) ∧ Below w.heap.size w w') := cV
  have CRV := hide_it cRV
  have CF := hide_it cF
  have CRF := hide_it cRF
  have CD := hide_it cD
  have CRD := hide_it cRD
  have CH := hide_it cH
  have CU := hide_it cU
  have CRR := hide_it cRR
  clear cn cT cR cV cRV cF cRF cD cRD cH cU cRR
  have hVT : (V ++ T).size ≤ 1000 := by rw [ByteArray.size_append]; omega
  have hFT : (F ++ T).size ≤ 1000 := by rw [ByteArray.size_append]; omega
  go_enter Try.func3, Try.ntmps3
  go_wp2_with fail
  refine (big_any _ _ _ _ (by omega)).mono ?_
  rintro e w' ⟨rfl, rfl⟩
  go_wp2_with fail
  refine (drawVar_any S hS _ hc hl).mono ?_
  rintro e w1 ⟨rfl, b1⟩
  rw [CN.out]
  go_wp2_with fail
  refine (drawHex_any S hS _ (codeW_below hc b1 hl) (Nat.le_trans hl b1.size)).mono ?_
  rintro e w2 ⟨rfl, hb2⟩
  rw [CT.out]
  have b2 := b1.trans (hb2.mono b1.size)
  go_wp2_with fail
  refine (CV.out _).mono ?_
  rintro e w3 ⟨rfl, hb3⟩
  have b3 := b2.trans (hb3.mono b2.size)
  go_wp2_with fail
  refine (CRV.out _).mono ?_
  rintro e w4 ⟨rfl, rfl⟩
  go_wp2_with fail
  refine (CF.out _).mono ?_
  rintro e w5 ⟨rfl, hb5⟩
  have b5 := b3.trans (hb5.mono b3.size)
  go_wp2_with fail
  refine (CRF.out _).mono ?_
  rintro e w6 ⟨rfl, rfl⟩
  go_wp2_with fail
  refine (CD.out _).mono ?_
  rintro e w7 ⟨rfl, hb7⟩
  have b7 := b5.trans (hb7.mono b5.size)
  go_wp2_with fail
  refine (CRD.out _).mono ?_
  rintro e w8 ⟨rfl, rfl⟩
  go_wp2_with fail
  refine (CH.out _).mono ?_
  rintro e w9 ⟨rfl, hb9⟩
  have b9 := b7.trans (hb9.mono b7.size)
  go_wp2_with fail
  refine (CU.out _).mono ?_
  rintro e w10 ⟨rfl, hb10⟩
  have b10 := b9.trans (hb10.mono b9.size)
  go_wp2_with fail
  refine (drawRv_any S hS _ (codeW_below hc b10 hl) (Nat.le_trans hl b10.size)).mono ?_
  rintro e w11 ⟨rfl, hb11⟩
  rw [CR.out]
  have b11 := b10.trans (hb11.mono b10.size)
  go_wp2_with fail
  refine (CRR.out _).mono ?_
  rintro e w12 ⟨rfl, rfl⟩
  go_wp2
  go_ret
  exact ⟨rfl, b11⟩

set_option linter.unusedVariables false in
set_option maxHeartbeats 3200000 in
theorem numbers_A1v (S : Src) (hS : S.ok) (w : World) (hc : CodeW S w) (hl : S.lim ≤ w.heap.size) (n : Int) (V T F D H R : ByteArray) (z : Int) (m : Nat)
    (hVs : V.size ≤ 7) (hTs : T.size ≤ 40) (hFs : F.size ≤ 7) (h0 : 0 ≤ n) (h1 : n < 1000000000) (hV : V.toList.isEmpty = false) (hF : F.toList.isEmpty = false) (hF7 : F.size = 7)
    (cn : drawVar S = n) (cT : strOfNums (drawHex S) = T) (cR : drawRv S = R)
    (cV : ∀ w, Calls Try.prog 15 #[.int .i64 n] w fun e w' => e = .returned (.string V) ∧ Below w.heap.size w w')
    (cRV : ∀ w, Calls Try.prog 16 #[.string (V ++ T)] w fun e w' => e = .returned (.tuple #[.int .i64 n, .int .i64 V.size]) ∧ w' = w)
    (cF : ∀ w, Calls Try.prog 17 #[.int .i64 n, .int .i64 7] w fun e w' => e = .returned (.string F) ∧ Below w.heap.size w w')
    (cRF : ∀ w, Calls Try.prog 18 #[.string (F ++ T), .int .i64 7] w fun e w' => e = .returned (.tuple #[.int .i64 n, .bool true]) ∧ w' = w)
    (cD : ∀ w, Calls Try.prog 20 #[.int .i64 n] w fun e w' => e = .returned (.string D) ∧ Below w.heap.size w w')
    (cRD : ∀ w, Calls Try.prog 19 #[.string D] w fun e w' => e = .returned (.tuple #[.int .i64 n, .bool true]) ∧ w' = w)
    (cH : ∀ w, Calls Try.prog 22 #[.string T] w fun e w' => e = .returned (.string H) ∧ Below w.heap.size w w')
    (cU : ∀ w, Calls Try.prog 21 #[.string H] w fun e w' => e = .returned (.tuple #[.string T, .bool true]) ∧ Below w.heap.size w w')
    (cRR : ∀ w, Calls Try.prog 16 #[.string R] w fun e w' => e = .returned (.tuple #[.int .i64 z, .int .i64 ((m : Int) + 1)]) ∧ w' = w)
    (cVz : ∀ w, Calls Try.prog 15 #[.int .i64 z] w fun e w' => e = .returned (.string (R.extract 0 (m + 1))) ∧ Below w.heap.size w w') (hm : m + 1 ≤ R.size)
    : Calls Try.prog 3 #[.slice S.a S.len S.cap] w fun e w' => e = .returned (.bool true) ∧ Below w.heap.size w w' := by
  have hlen := hS.1
  have hbig : decide ((1048576 : Int) < S.len) = false := by simp; omega
  have CN : Hid (drawVar S = n) := cn
  have CT : Hid (strOfNums (drawHex S) = T) := cT
  have CR : Hid (drawRv S = R) := cR
  have CV : Hid (∀ w, Calls Try.prog 15 #[.int .i64 n] w fun e w' => e = .returned (.string V) ∧ Below w.heap.size w w') := cV
  have CRV := hide_it cRV
  have CF := hide_it cF
  have CRF := hide_it cRF
  have CD := hide_it cD
  have CRD := hide_it cRD
  have CH := hide_it cH
  have CU := hide_it cU
  have CRR := hide_it cRR
  have CVZ := hide_it cVz
  clear cn cT cR cV cRV cF cRF cD cRD cH cU cRR cVz
  have hm0 : (((m : Int) + 1) == 0) = false := beq_eq_false_iff_ne.2 (by omega)
  have hm1 : (0 : Int) ≤ (m : Int) + 1 := by omega
  have hm2 : (m : Int) + 1 ≤ R.size := by omega
  have hVT : (V ++ T).size ≤ 1000 := by rw [ByteArray.size_append]; omega
  have hFT : (F ++ T).size ≤ 1000 := by rw [ByteArray.size_append]; omega
  go_enter Try.func3, Try.ntmps3
  go_wp2_with fail
  refine (big_any _ _ _ _ (by omega)).mono ?_
  rintro e w' ⟨rfl, rfl⟩
  go_wp2_with fail
  refine (drawVar_any S hS _ hc hl).mono ?_
  rintro e w1 ⟨rfl, b1⟩
  rw [CN.out]
  go_wp2_with fail
  refine (drawHex_any S hS _ (codeW_below hc b1 hl) (Nat.le_trans hl b1.size)).mono ?_
  rintro e w2 ⟨rfl, hb2⟩
  rw [CT.out]
  have b2 := b1.trans (hb2.mono b1.size)
  go_wp2_with fail
  refine (CV.out _).mono ?_
  rintro e w3 ⟨rfl, hb3⟩
  have b3 := b2.trans (hb3.mono b2.size)
  go_wp2_with fail
  refine (CRV.out _).mono ?_
  rintro e w4 ⟨rfl, rfl⟩
  go_wp2_with fail
  refine (CF.out _).mono ?_
  rintro e w5 ⟨rfl, hb5⟩
  have b5 := b3.trans (hb5.mono b3.size)
  go_wp2_with fail
  refine (CRF.out _).mono ?_
  rintro e w6 ⟨rfl, rfl⟩
  go_wp2_with fail
  refine (CD.out _).mono ?_
  rintro e w7 ⟨rfl, hb7⟩
  have b7 := b5.trans (hb7.mono b5.size)
  go_wp2_with fail
  refine (CRD.out _).mono ?_
  rintro e w8 ⟨rfl, rfl⟩
  go_wp2_with fail
  refine (CH.out _).mono ?_
  rintro e w9 ⟨rfl, hb9⟩
  have b9 := b7.trans (hb9.mono b7.size)
  go_wp2_with fail
  refine (CU.out _).mono ?_
  rintro e w10 ⟨rfl, hb10⟩
  have b10 := b9.trans (hb10.mono b9.size)
  go_wp2_with fail
  refine (drawRv_any S hS _ (codeW_below hc b10 hl) (Nat.le_trans hl b10.size)).mono ?_
  rintro e w11 ⟨rfl, hb11⟩
  rw [CR.out]
  have b11 := b10.trans (hb11.mono b10.size)
  go_wp2_with fail
  refine (CRR.out _).mono ?_
  rintro e w12 ⟨rfl, rfl⟩
  go_wp2_with fail
  refine (CVZ.out _).mono ?_
  rintro e w13 ⟨rfl, hb13⟩
  have b13 := b11.trans (hb13.mono b11.size)
  go_wp2_with fail
  refine (drawRv_any S hS _ (codeW_below hc b13 hl) (Nat.le_trans hl b13.size)).mono ?_
  rintro e w14 ⟨rfl, hb14⟩
  rw [CR.out]
  go_wp2
  go_ret
  exact ⟨rfl, b13.trans (hb14.mono b13.size)⟩

set_option linter.unusedVariables false in
set_option maxHeartbeats 3200000 in
theorem numbers_A2z (S : Src) (hS : S.ok) (w : World) (hc : CodeW S w) (hl : S.lim ≤ w.heap.size) (n : Int) (V T F D H R : ByteArray) (d : Int) 
    (hVs : V.size ≤ 7) (hTs : T.size ≤ 40) (hFs : F.size ≤ 7) (h0 : 1000000000 ≤ n) (h1 : n ≤ 562949953421311) (hV : V.toList.isEmpty = false) (hF : F.toList.isEmpty = false) (hF7 : F.size = 7)
    (cn : drawVar S = n) (cT : strOfNums (drawHex S) = T) (cR : drawRv S = R)
    (cV : ∀ w, Calls Try.prog 15 #[.int .i64 n] w fun e w' => e = .returned (.string V) ∧ Below w.heap.size w w')
    (cRV : ∀ w, Calls Try.prog 16 #[.string (V ++ T)] w fun e w' => e = .returned (.tuple #[.int .i64 n, .int .i64 V.size]) ∧ w' = w)
    (cF : ∀ w, Calls Try.prog 17 #[.int .i64 n, .int .i64 7] w fun e w' => e = .returned (.string F) ∧ Below w.heap.size w w')
    (cRF : ∀ w, Calls Try.prog 18 #[.string (F ++ T), .int .i64 7] w fun e w' => e = .returned (.tuple #[.int .i64 n, .bool true]) ∧ w' = w)
    (cD : ∀ w, Calls Try.prog 20 #[.int .i64 n] w fun e w' => e = .returned (.string D) ∧ Below w.heap.size w w')
    (cRD : ∀ w, Calls Try.prog 19 #[.string D] w fun e w' => e = .returned (.tuple #[.int .i64 d, .bool false]) ∧ w' = w)
    (cH : ∀ w, Calls Try.prog 22 #[.string T] w fun e w' => e = .returned (.string H) ∧ Below w.heap.size w w')
    (cU : ∀ w, Calls Try.prog 21 #[.string H] w fun e w' => e = .returned (.tuple #[.string T, .bool true]) ∧ Below w.heap.size w w')
    (cRR : ∀ w, Calls Try.prog 16 #[.string R] w fun e w' => e = .returned (.tuple #[.int .i64 0, .int .i64 0]) ∧ w' = w)
    : Calls Try.prog 3 #[.slice S.a S.len S.cap] w fun e w' => e = .returned (.bool true) ∧ Below w.heap.size w w' := by
  have hlen := hS.1
  have hbig : decide ((1048576 : Int) < S.len) = false := by simp; omega
  have CN : Hid (drawVar S = n) := cn
  have CT : Hid (strOfNums (drawHex S) = T) := cT
  have CR : Hid (drawRv S = R) := cR
  have CV : Hid (∀ w, Calls Try.prog 15 #[.int .i64 n] w fun e w' => e = .returned (.string V) ∧ Below w.heap.size w w') := cV
  have CRV := hide_it cRV
  have CF := hide_it cF
  have CRF := hide_it cRF
  have CD := hide_it cD
  have CRD := hide_it cRD
  have CH := hide_it cH
  have CU := hide_it cU
  have CRR := hide_it cRR
  clear cn cT cR cV cRV cF cRF cD cRD cH cU cRR
  have hVT : (V ++ T).size ≤ 1000 := by rw [ByteArray.size_append]; omega
  have hFT : (F ++ T).size ≤ 1000 := by rw [ByteArray.size_append]; omega
  go_enter Try.func3, Try.ntmps3
  go_wp2_with fail
  refine (big_any _ _ _ _ (by omega)).mono ?_
  rintro e w' ⟨rfl, rfl⟩
  go_wp2_with fail
  refine (drawVar_any S hS _ hc hl).mono ?_
  rintro e w1 ⟨rfl, b1⟩
  rw [CN.out]
  go_wp2_with fail
  refine (drawHex_any S hS _ (codeW_below hc b1 hl) (Nat.le_trans hl b1.size)).mono ?_
  rintro e w2 ⟨rfl, hb2⟩
  rw [CT.out]
  have b2 := b1.trans (hb2.mono b1.size)
  go_wp2_with fail
  refine (CV.out _).mono ?_
  rintro e w3 ⟨rfl, hb3⟩
  have b3 := b2.trans (hb3.mono b2.size)
  go_wp2_with fail
  refine (CRV.out _).mono ?_
  rintro e w4 ⟨rfl, rfl⟩
  go_wp2_with fail
  refine (CF.out _).mono ?_
  rintro e w5 ⟨rfl, hb5⟩
  have b5 := b3.trans (hb5.mono b3.size)
  go_wp2_with fail
  refine (CRF.out _).mono ?_
  rintro e w6 ⟨rfl, rfl⟩
  go_wp2_with fail
  refine (CD.out _).mono ?_
  rintro e w7 ⟨rfl, hb7⟩
  have b7 := b5.trans (hb7.mono b5.size)
  go_wp2_with fail
  refine (CRD.out _).mono ?_
  rintro e w8 ⟨rfl, rfl⟩
  go_wp2_with fail
  refine (CH.out _).mono ?_
  rintro e w9 ⟨rfl, hb9⟩
  have b9 := b7.trans (hb9.mono b7.size)
  go_wp2_with fail
  refine (CU.out _).mono ?_
  rintro e w10 ⟨rfl, hb10⟩
  have b10 := b9.trans (hb10.mono b9.size)
  go_wp2_with fail
  refine (drawRv_any S hS _ (codeW_below hc b10 hl) (Nat.le_trans hl b10.size)).mono ?_
  rintro e w11 ⟨rfl, hb11⟩
  rw [CR.out]
  have b11 := b10.trans (hb11.mono b10.size)
  go_wp2_with fail
  refine (CRR.out _).mono ?_
  rintro e w12 ⟨rfl, rfl⟩
  go_wp2
  go_ret
  exact ⟨rfl, b11⟩

set_option linter.unusedVariables false in
set_option maxHeartbeats 3200000 in
theorem numbers_A2v (S : Src) (hS : S.ok) (w : World) (hc : CodeW S w) (hl : S.lim ≤ w.heap.size) (n : Int) (V T F D H R : ByteArray) (d : Int) (z : Int) (m : Nat)
    (hVs : V.size ≤ 7) (hTs : T.size ≤ 40) (hFs : F.size ≤ 7) (h0 : 1000000000 ≤ n) (h1 : n ≤ 562949953421311) (hV : V.toList.isEmpty = false) (hF : F.toList.isEmpty = false) (hF7 : F.size = 7)
    (cn : drawVar S = n) (cT : strOfNums (drawHex S) = T) (cR : drawRv S = R)
    (cV : ∀ w, Calls Try.prog 15 #[.int .i64 n] w fun e w' => e = .returned (.string V) ∧ Below w.heap.size w w')
    (cRV : ∀ w, Calls Try.prog 16 #[.string (V ++ T)] w fun e w' => e = .returned (.tuple #[.int .i64 n, .int .i64 V.size]) ∧ w' = w)
    (cF : ∀ w, Calls Try.prog 17 #[.int .i64 n, .int .i64 7] w fun e w' => e = .returned (.string F) ∧ Below w.heap.size w w')
    (cRF : ∀ w, Calls Try.prog 18 #[.string (F ++ T), .int .i64 7] w fun e w' => e = .returned (.tuple #[.int .i64 n, .bool true]) ∧ w' = w)
    (cD : ∀ w, Calls Try.prog 20 #[.int .i64 n] w fun e w' => e = .returned (.string D) ∧ Below w.heap.size w w')
    (cRD : ∀ w, Calls Try.prog 19 #[.string D] w fun e w' => e = .returned (.tuple #[.int .i64 d, .bool false]) ∧ w' = w)
    (cH : ∀ w, Calls Try.prog 22 #[.string T] w fun e w' => e = .returned (.string H) ∧ Below w.heap.size w w')
    (cU : ∀ w, Calls Try.prog 21 #[.string H] w fun e w' => e = .returned (.tuple #[.string T, .bool true]) ∧ Below w.heap.size w w')
    (cRR : ∀ w, Calls Try.prog 16 #[.string R] w fun e w' => e = .returned (.tuple #[.int .i64 z, .int .i64 ((m : Int) + 1)]) ∧ w' = w)
    (cVz : ∀ w, Calls Try.prog 15 #[.int .i64 z] w fun e w' => e = .returned (.string (R.extract 0 (m + 1))) ∧ Below w.heap.size w w') (hm : m + 1 ≤ R.size)
    : Calls Try.prog 3 #[.slice S.a S.len S.cap] w fun e w' => e = .returned (.bool true) ∧ Below w.heap.size w w' := by
  have hlen := hS.1
  have hbig : decide ((1048576 : Int) < S.len) = false := by simp; omega
  have CN : Hid (drawVar S = n) := cn
  have CT : Hid (strOfNums (drawHex S) = T) := cT
  have CR : Hid (drawRv S = R) := cR
  have CV : Hid (∀ w, Calls Try.prog 15 #[.int .i64 n] w fun e w' => e = .returned (.string V) ∧ Below w.heap.size w w') := cV
  have CRV := hide_it cRV
  have CF := hide_it cF
  have CRF := hide_it cRF
  have CD := hide_it cD
  have CRD := hide_it cRD
  have CH := hide_it cH
  have CU := hide_it cU
  have CRR := hide_it cRR
  have CVZ := hide_it cVz
  clear cn cT cR cV cRV cF cRF cD cRD cH cU cRR cVz
  have hm0 : (((m : Int) + 1) == 0) = false := beq_eq_false_iff_ne.2 (by omega)
  have hm1 : (0 : Int) ≤ (m : Int) + 1 := by omega
  have hm2 : (m : Int) + 1 ≤ R.size := by omega
  have hVT : (V ++ T).size ≤ 1000 := by rw [ByteArray.size_append]; omega
  have hFT : (F ++ T).size ≤ 1000 := by rw [ByteArray.size_append]; omega
  go_enter Try.func3, Try.ntmps3
  go_wp2_with fail
  refine (big_any _ _ _ _ (by omega)).mono ?_
  rintro e w' ⟨rfl, rfl⟩
  go_wp2_with fail
  refine (drawVar_any S hS _ hc hl).mono ?_
  rintro e w1 ⟨rfl, b1⟩
  rw [CN.out]
  go_wp2_with fail
  refine (drawHex_any S hS _ (codeW_below hc b1 hl) (Nat.le_trans hl b1.size)).mono ?_
  rintro e w2 ⟨rfl, hb2⟩
  rw [CT.out]
  have b2 := b1.trans (hb2.mono b1.size)
  go_wp2_with fail
  refine (CV.out _).mono ?_
  rintro e w3 ⟨rfl, hb3⟩
  have b3 := b2.trans (hb3.mono b2.size)
  go_wp2_with fail
  refine (CRV.out _).mono ?_
  rintro e w4 ⟨rfl, rfl⟩
  go_wp2_with fail
  refine (CF.out _).mono ?_
  rintro e w5 ⟨rfl, hb5⟩
  have b5 := b3.trans (hb5.mono b3.size)
  go_wp2_with fail
  refine (CRF.out _).mono ?_
  rintro e w6 ⟨rfl, rfl⟩
  go_wp2_with fail
  refine (CD.out _).mono ?_
  rintro e w7 ⟨rfl, hb7⟩
  have b7 := b5.trans (hb7.mono b5.size)
  go_wp2_with fail
  refine (CRD.out _).mono ?_
  rintro e w8 ⟨rfl, rfl⟩
  go_wp2_with fail
  refine (CH.out _).mono ?_
  rintro e w9 ⟨rfl, hb9⟩
  have b9 := b7.trans (hb9.mono b7.size)
  go_wp2_with fail
  refine (CU.out _).mono ?_
  rintro e w10 ⟨rfl, hb10⟩
  have b10 := b9.trans (hb10.mono b9.size)
  go_wp2_with fail
  refine (drawRv_any S hS _ (codeW_below hc b10 hl) (Nat.le_trans hl b10.size)).mono ?_
  rintro e w11 ⟨rfl, hb11⟩
  rw [CR.out]
  have b11 := b10.trans (hb11.mono b10.size)
  go_wp2_with fail
  refine (CRR.out _).mono ?_
  rintro e w12 ⟨rfl, rfl⟩
  go_wp2_with fail
  refine (CVZ.out _).mono ?_
  rintro e w13 ⟨rfl, hb13⟩
  have b13 := b11.trans (hb13.mono b11.size)
  go_wp2_with fail
  refine (drawRv_any S hS _ (codeW_below hc b13 hl) (Nat.le_trans hl b13.size)).mono ?_
  rintro e w14 ⟨rfl, hb14⟩
  rw [CR.out]
  go_wp2
  go_ret
  exact ⟨rfl, b13.trans (hb14.mono b13.size)⟩

set_option linter.unusedVariables false in
set_option maxHeartbeats 3200000 in
theorem numbers_Bz (S : Src) (hS : S.ok) (w : World) (hc : CodeW S w) (hl : S.lim ≤ w.heap.size) (n : Int) (V T F D H R : ByteArray) (x k d : Int) 
    (hVs : V.size ≤ 7) (hTs : T.size ≤ 40) (hFs : F.size ≤ 7) (h0 : 562949953421311 < n) (h1 : n < 72057594037927936) (hV : V.toList.isEmpty = true) (hF : F.toList.isEmpty = false) (hF7 : F.size = 7)
    (cn : drawVar S = n) (cT : strOfNums (drawHex S) = T) (cR : drawRv S = R)
    (cV : ∀ w, Calls Try.prog 15 #[.int .i64 n] w fun e w' => e = .returned (.string V) ∧ Below w.heap.size w w')
    (cRV : ∀ w, Calls Try.prog 16 #[.string (V ++ T)] w fun e w' => e = .returned (.tuple #[.int .i64 x, .int .i64 k]) ∧ w' = w)
    (cF : ∀ w, Calls Try.prog 17 #[.int .i64 n, .int .i64 7] w fun e w' => e = .returned (.string F) ∧ Below w.heap.size w w')
    (cRF : ∀ w, Calls Try.prog 18 #[.string (F ++ T), .int .i64 7] w fun e w' => e = .returned (.tuple #[.int .i64 n, .bool true]) ∧ w' = w)
    (cD : ∀ w, Calls Try.prog 20 #[.int .i64 n] w fun e w' => e = .returned (.string D) ∧ Below w.heap.size w w')
    (cRD : ∀ w, Calls Try.prog 19 #[.string D] w fun e w' => e = .returned (.tuple #[.int .i64 d, .bool false]) ∧ w' = w)
    (cH : ∀ w, Calls Try.prog 22 #[.string T] w fun e w' => e = .returned (.string H) ∧ Below w.heap.size w w')
    (cU : ∀ w, Calls Try.prog 21 #[.string H] w fun e w' => e = .returned (.tuple #[.string T, .bool true]) ∧ Below w.heap.size w w')
    (cRR : ∀ w, Calls Try.prog 16 #[.string R] w fun e w' => e = .returned (.tuple #[.int .i64 0, .int .i64 0]) ∧ w' = w)
    : Calls Try.prog 3 #[.slice S.a S.len S.cap] w fun e w' => e = .returned (.bool true) ∧ Below w.heap.size w w' := by
  have hlen := hS.1
  have hbig : decide ((1048576 : Int) < S.len) = false := by simp; omega
  have CN : Hid (drawVar S = n) := cn
  have CT : Hid (strOfNums (drawHex S) = T) := cT
  have CR : Hid (drawRv S = R) := cR
  have CV : Hid (∀ w, Calls Try.prog 15 #[.int .i64 n] w fun e w' => e = .returned (.string V) ∧ Below w.heap.size w w') := cV
  have CRV := hide_it cRV
  have CF := hide_it cF
  have CRF := hide_it cRF
  have CD := hide_it cD
  have CRD := hide_it cRD
  have CH := hide_it cH
  have CU := hide_it cU
  have CRR := hide_it cRR
  clear cn cT cR cV cRV cF cRF cD cRD cH cU cRR
  have hVT : (V ++ T).size ≤ 1000 := by rw [ByteArray.size_append]; omega
  have hFT : (F ++ T).size ≤ 1000 := by rw [ByteArray.size_append]; omega
  go_enter Try.func3, Try.ntmps3
  go_wp2_with fail
  refine (big_any _ _ _ _ (by omega)).mono ?_
  rintro e w' ⟨rfl, rfl⟩
  go_wp2_with fail
  refine (drawVar_any S hS _ hc hl).mono ?_
  rintro e w1 ⟨rfl, b1⟩
  rw [CN.out]
  go_wp2_with fail
  refine (drawHex_any S hS _ (codeW_below hc b1 hl) (Nat.le_trans hl b1.size)).mono ?_
  rintro e w2 ⟨rfl, hb2⟩
  rw [CT.out]
  have b2 := b1.trans (hb2.mono b1.size)
  go_wp2_with fail
  refine (CV.out _).mono ?_
  rintro e w3 ⟨rfl, hb3⟩
  have b3 := b2.trans (hb3.mono b2.size)
  go_wp2_with fail
  refine (CRV.out _).mono ?_
  rintro e w4 ⟨rfl, rfl⟩
  go_wp2_with fail
  refine (CF.out _).mono ?_
  rintro e w5 ⟨rfl, hb5⟩
  have b5 := b3.trans (hb5.mono b3.size)
  go_wp2_with fail
  refine (CRF.out _).mono ?_
  rintro e w6 ⟨rfl, rfl⟩
  go_wp2_with fail
  refine (CD.out _).mono ?_
  rintro e w7 ⟨rfl, hb7⟩
  have b7 := b5.trans (hb7.mono b5.size)
  go_wp2_with fail
  refine (CRD.out _).mono ?_
  rintro e w8 ⟨rfl, rfl⟩
  go_wp2_with fail
  refine (CH.out _).mono ?_
  rintro e w9 ⟨rfl, hb9⟩
  have b9 := b7.trans (hb9.mono b7.size)
  go_wp2_with fail
  refine (CU.out _).mono ?_
  rintro e w10 ⟨rfl, hb10⟩
  have b10 := b9.trans (hb10.mono b9.size)
  go_wp2_with fail
  refine (drawRv_any S hS _ (codeW_below hc b10 hl) (Nat.le_trans hl b10.size)).mono ?_
  rintro e w11 ⟨rfl, hb11⟩
  rw [CR.out]
  have b11 := b10.trans (hb11.mono b10.size)
  go_wp2_with fail
  refine (CRR.out _).mono ?_
  rintro e w12 ⟨rfl, rfl⟩
  go_wp2
  go_ret
  exact ⟨rfl, b11⟩

set_option linter.unusedVariables false in
set_option maxHeartbeats 3200000 in
theorem numbers_Bv (S : Src) (hS : S.ok) (w : World) (hc : CodeW S w) (hl : S.lim ≤ w.heap.size) (n : Int) (V T F D H R : ByteArray) (x k d : Int) (z : Int) (m : Nat)
    (hVs : V.size ≤ 7) (hTs : T.size ≤ 40) (hFs : F.size ≤ 7) (h0 : 562949953421311 < n) (h1 : n < 72057594037927936) (hV : V.toList.isEmpty = true) (hF : F.toList.isEmpty = false) (hF7 : F.size = 7)
    (cn : drawVar S = n) (cT : strOfNums (drawHex S) = T) (cR : drawRv S = R)
    (cV : ∀ w, Calls Try.prog 15 #[.int .i64 n] w fun e w' => e = .returned (.string V) ∧ Below w.heap.size w w')
    (cRV : ∀ w, Calls Try.prog 16 #[.string (V ++ T)] w fun e w' => e = .returned (.tuple #[.int .i64 x, .int .i64 k]) ∧ w' = w)
    (cF : ∀ w, Calls Try.prog 17 #[.int .i64 n, .int .i64 7] w fun e w' => e = .returned (.string F) ∧ Below w.heap.size w w')
    (cRF : ∀ w, Calls Try.prog 18 #[.string (F ++ T), .int .i64 7] w fun e w' => e = .returned (.tuple #[.int .i64 n, .bool true]) ∧ w' = w)
    (cD : ∀ w, Calls Try.prog 20 #[.int .i64 n] w fun e w' => e = .returned (.string D) ∧ Below w.heap.size w w')
    (cRD : ∀ w, Calls Try.prog 19 #[.string D] w fun e w' => e = .returned (.tuple #[.int .i64 d, .bool false]) ∧ w' = w)
    (cH : ∀ w, Calls Try.prog 22 #[.string T] w fun e w' => e = .returned (.string H) ∧ Below w.heap.size w w')
    (cU : ∀ w, Calls Try.prog 21 #[.string H] w fun e w' => e = .returned (.tuple #[.string T, .bool true]) ∧ Below w.heap.size w w')
    (cRR : ∀ w, Calls Try.prog 16 #[.string R] w fun e w' => e = .returned (.tuple #[.int .i64 z, .int .i64 ((m : Int) + 1)]) ∧ w' = w)
    (cVz : ∀ w, Calls Try.prog 15 #[.int .i64 z] w fun e w' => e = .returned (.string (R.extract 0 (m + 1))) ∧ Below w.heap.size w w') (hm : m + 1 ≤ R.size)
    : Calls Try.prog 3 #[.slice S.a S.len S.cap] w fun e w' => e = .returned (.bool true) ∧ Below w.heap.size w w' := by
  have hlen := hS.1
  have hbig : decide ((1048576 : Int) < S.len) = false := by simp; omega
  have CN : Hid (drawVar S = n) := cn
  have CT : Hid (strOfNums (drawHex S) = T) := cT
  have CR : Hid (drawRv S = R) := cR
  have CV : Hid (∀ w, Calls Try.prog 15 #[.int .i64 n] w fun e w' => e = .returned (.string V) ∧ Below w.heap.size w w') := cV
  have CRV := hide_it cRV
  have CF := hide_it cF
  have CRF := hide_it cRF
  have CD := hide_it cD
  have CRD := hide_it cRD
  have CH := hide_it cH
  have CU := hide_it cU
  have CRR := hide_it cRR
  have CVZ := hide_it cVz
  clear cn cT cR cV cRV cF cRF cD cRD cH cU cRR cVz
  have hm0 : (((m : Int) + 1) == 0) = false := beq_eq_false_iff_ne.2 (by omega)
  have hm1 : (0 : Int) ≤ (m : Int) + 1 := by omega
  have hm2 : (m : Int) + 1 ≤ R.size := by omega
  have hVT : (V ++ T).size ≤ 1000 := by rw [ByteArray.size_append]; omega
  have hFT : (F ++ T).size ≤ 1000 := by rw [ByteArray.size_append]; omega
  go_enter Try.func3, Try.ntmps3
  go_wp2_with fail
  refine (big_any _ _ _ _ (by omega)).mono ?_
  rintro e w' ⟨rfl, rfl⟩
  go_wp2_with fail
  refine (drawVar_any S hS _ hc hl).mono ?_
  rintro e w1 ⟨rfl, b1⟩
  rw [CN.out]
  go_wp2_with fail
  refine (drawHex_any S hS _ (codeW_below hc b1 hl) (Nat.le_trans hl b1.size)).mono ?_
  rintro e w2 ⟨rfl, hb2⟩
  rw [CT.out]
  have b2 := b1.trans (hb2.mono b1.size)
  go_wp2_with fail
  refine (CV.out _).mono ?_
  rintro e w3 ⟨rfl, hb3⟩
  have b3 := b2.trans (hb3.mono b2.size)
  go_wp2_with fail
  refine (CRV.out _).mono ?_
  rintro e w4 ⟨rfl, rfl⟩
  go_wp2_with fail
  refine (CF.out _).mono ?_
  rintro e w5 ⟨rfl, hb5⟩
  have b5 := b3.trans (hb5.mono b3.size)
  go_wp2_with fail
  refine (CRF.out _).mono ?_
  rintro e w6 ⟨rfl, rfl⟩
  go_wp2_with fail
  refine (CD.out _).mono ?_
  rintro e w7 ⟨rfl, hb7⟩
  have b7 := b5.trans (hb7.mono b5.size)
  go_wp2_with fail
  refine (CRD.out _).mono ?_
  rintro e w8 ⟨rfl, rfl⟩
  go_wp2_with fail
  refine (CH.out _).mono ?_
  rintro e w9 ⟨rfl, hb9⟩
  have b9 := b7.trans (hb9.mono b7.size)
  go_wp2_with fail
  refine (CU.out _).mono ?_
  rintro e w10 ⟨rfl, hb10⟩
  have b10 := b9.trans (hb10.mono b9.size)
  go_wp2_with fail
  refine (drawRv_any S hS _ (codeW_below hc b10 hl) (Nat.le_trans hl b10.size)).mono ?_
  rintro e w11 ⟨rfl, hb11⟩
  rw [CR.out]
  have b11 := b10.trans (hb11.mono b10.size)
  go_wp2_with fail
  refine (CRR.out _).mono ?_
  rintro e w12 ⟨rfl, rfl⟩
  go_wp2_with fail
  refine (CVZ.out _).mono ?_
  rintro e w13 ⟨rfl, hb13⟩
  have b13 := b11.trans (hb13.mono b11.size)
  go_wp2_with fail
  refine (drawRv_any S hS _ (codeW_below hc b13 hl) (Nat.le_trans hl b13.size)).mono ?_
  rintro e w14 ⟨rfl, hb14⟩
  rw [CR.out]
  go_wp2
  go_ret
  exact ⟨rfl, b13.trans (hb14.mono b13.size)⟩

set_option linter.unusedVariables false in
set_option maxHeartbeats 3200000 in
theorem numbers_Cz (S : Src) (hS : S.ok) (w : World) (hc : CodeW S w) (hl : S.lim ≤ w.heap.size) (n : Int) (V T F D H R : ByteArray) (x k y d : Int) (is : Bool) 
    (hVs : V.size ≤ 7) (hTs : T.size ≤ 40) (hFs : F.size ≤ 7) (h0 : 72057594037927936 ≤ n) (hV : V.toList.isEmpty = true) (hF : F.toList.isEmpty = true)
    (cn : drawVar S = n) (cT : strOfNums (drawHex S) = T) (cR : drawRv S = R)
    (cV : ∀ w, Calls Try.prog 15 #[.int .i64 n] w fun e w' => e = .returned (.string V) ∧ Below w.heap.size w w')
    (cRV : ∀ w, Calls Try.prog 16 #[.string (V ++ T)] w fun e w' => e = .returned (.tuple #[.int .i64 x, .int .i64 k]) ∧ w' = w)
    (cF : ∀ w, Calls Try.prog 17 #[.int .i64 n, .int .i64 7] w fun e w' => e = .returned (.string F) ∧ Below w.heap.size w w')
    (cRF : ∀ w, Calls Try.prog 18 #[.string (F ++ T), .int .i64 7] w fun e w' => e = .returned (.tuple #[.int .i64 y, .bool is]) ∧ w' = w)
    (cD : ∀ w, Calls Try.prog 20 #[.int .i64 n] w fun e w' => e = .returned (.string D) ∧ Below w.heap.size w w')
    (cRD : ∀ w, Calls Try.prog 19 #[.string D] w fun e w' => e = .returned (.tuple #[.int .i64 d, .bool false]) ∧ w' = w)
    (cH : ∀ w, Calls Try.prog 22 #[.string T] w fun e w' => e = .returned (.string H) ∧ Below w.heap.size w w')
    (cU : ∀ w, Calls Try.prog 21 #[.string H] w fun e w' => e = .returned (.tuple #[.string T, .bool true]) ∧ Below w.heap.size w w')
    (cRR : ∀ w, Calls Try.prog 16 #[.string R] w fun e w' => e = .returned (.tuple #[.int .i64 0, .int .i64 0]) ∧ w' = w)
    : Calls Try.prog 3 #[.slice S.a S.len S.cap] w fun e w' => e = .returned (.bool true) ∧ Below w.heap.size w w' := by
  have hlen := hS.1
  have hbig : decide ((1048576 : Int) < S.len) = false := by simp; omega
  have CN : Hid (drawVar S = n) := cn
  have CT : Hid (strOfNums (drawHex S) = T) := cT
  have CR : Hid (drawRv S = R) := cR
  have CV : Hid (∀ w, Calls Try.prog 15 #[.int .i64 n] w fun e w' => e = .returned (.string V) ∧ Below w.heap.size w w') := cV
  have CRV := hide_it cRV
  have CF := hide_it cF
  have CRF := hide_it cRF
  have CD := hide_it cD
  have CRD := hide_it cRD
  have CH := hide_it cH
  have CU := hide_it cU
  have CRR := hide_it cRR
  clear cn cT cR cV cRV cF cRF cD cRD cH cU cRR
  have hVT : (V ++ T).size ≤ 1000 := by rw [ByteArray.size_append]; omega
  have hFT : (F ++ T).size ≤ 1000 := by rw [ByteArray.size_append]; omega
  go_enter Try.func3, Try.ntmps3
  go_wp2_with fail
  refine (big_any _ _ _ _ (by omega)).mono ?_
  rintro e w' ⟨rfl, rfl⟩
  go_wp2_with fail
  refine (drawVar_any S hS _ hc hl).mono ?_
  rintro e w1 ⟨rfl, b1⟩
  rw [CN.out]
  go_wp2_with fail
  refine (drawHex_any S hS _ (codeW_below hc b1 hl) (Nat.le_trans hl b1.size)).mono ?_
  rintro e w2 ⟨rfl, hb2⟩
  rw [CT.out]
  have b2 := b1.trans (hb2.mono b1.size)
  go_wp2_with fail
  refine (CV.out _).mono ?_
  rintro e w3 ⟨rfl, hb3⟩
  have b3 := b2.trans (hb3.mono b2.size)
  go_wp2_with fail
  refine (CRV.out _).mono ?_
  rintro e w4 ⟨rfl, rfl⟩
  go_wp2_with fail
  refine (CF.out _).mono ?_
  rintro e w5 ⟨rfl, hb5⟩
  have b5 := b3.trans (hb5.mono b3.size)
  go_wp2_with fail
  refine (CRF.out _).mono ?_
  rintro e w6 ⟨rfl, rfl⟩
  go_wp2_with fail
  refine (CD.out _).mono ?_
  rintro e w7 ⟨rfl, hb7⟩
  have b7 := b5.trans (hb7.mono b5.size)
  go_wp2_with fail
  refine (CRD.out _).mono ?_
  rintro e w8 ⟨rfl, rfl⟩
  go_wp2_with fail
  refine (CH.out _).mono ?_
  rintro e w9 ⟨rfl, hb9⟩
  have b9 := b7.trans (hb9.mono b7.size)
  go_wp2_with fail
  refine (CU.out _).mono ?_
  rintro e w10 ⟨rfl, hb10⟩
  have b10 := b9.trans (hb10.mono b9.size)
  go_wp2_with fail
  refine (drawRv_any S hS _ (codeW_below hc b10 hl) (Nat.le_trans hl b10.size)).mono ?_
  rintro e w11 ⟨rfl, hb11⟩
  rw [CR.out]
  have b11 := b10.trans (hb11.mono b10.size)
  go_wp2_with fail
  refine (CRR.out _).mono ?_
  rintro e w12 ⟨rfl, rfl⟩
  go_wp2
  go_ret
  exact ⟨rfl, b11⟩

set_option linter.unusedVariables false in
set_option maxHeartbeats 3200000 in
theorem numbers_Cv (S : Src) (hS : S.ok) (w : World) (hc : CodeW S w) (hl : S.lim ≤ w.heap.size) (n : Int) (V T F D H R : ByteArray) (x k y d : Int) (is : Bool) (z : Int) (m : Nat)
    (hVs : V.size ≤ 7) (hTs : T.size ≤ 40) (hFs : F.size ≤ 7) (h0 : 72057594037927936 ≤ n) (hV : V.toList.isEmpty = true) (hF : F.toList.isEmpty = true)
    (cn : drawVar S = n) (cT : strOfNums (drawHex S) = T) (cR : drawRv S = R)
    (cV : ∀ w, Calls Try.prog 15 #[.int .i64 n] w fun e w' => e = .returned (.string V) ∧ Below w.heap.size w w')
    (cRV : ∀ w, Calls Try.prog 16 #[.string (V ++ T)] w fun e w' => e = .returned (.tuple #[.int .i64 x, .int .i64 k]) ∧ w' = w)
    (cF : ∀ w, Calls Try.prog 17 #[.int .i64 n, .int .i64 7] w fun e w' => e = .returned (.string F) ∧ Below w.heap.size w w')
    (cRF : ∀ w, Calls Try.prog 18 #[.string (F ++ T), .int .i64 7] w fun e w' => e = .returned (.tuple #[.int .i64 y, .bool is]) ∧ w' = w)
    (cD : ∀ w, Calls Try.prog 20 #[.int .i64 n] w fun e w' => e = .returned (.string D) ∧ Below w.heap.size w w')
    (cRD : ∀ w, Calls Try.prog 19 #[.string D] w fun e w' => e = .returned (.tuple #[.int .i64 d, .bool false]) ∧ w' = w)
    (cH : ∀ w, Calls Try.prog 22 #[.string T] w fun e w' => e = .returned (.string H) ∧ Below w.heap.size w w')
    (cU : ∀ w, Calls Try.prog 21 #[.string H] w fun e w' => e = .returned (.tuple #[.string T, .bool true]) ∧ Below w.heap.size w w')
    (cRR : ∀ w, Calls Try.prog 16 #[.string R] w fun e w' => e = .returned (.tuple #[.int .i64 z, .int .i64 ((m : Int) + 1)]) ∧ w' = w)
    (cVz : ∀ w, Calls Try.prog 15 #[.int .i64 z] w fun e w' => e = .returned (.string (R.extract 0 (m + 1))) ∧ Below w.heap.size w w') (hm : m + 1 ≤ R.size)
    : Calls Try.prog 3 #[.slice S.a S.len S.cap] w fun e w' => e = .returned (.bool true) ∧ Below w.heap.size w w' := by
  have hlen := hS.1
  have hbig : decide ((1048576 : Int) < S.len) = false := by simp; omega
  have CN : Hid (drawVar S = n) := cn
  have CT : Hid (strOfNums (drawHex S) = T) := cT
  have CR : Hid (drawRv S = R) := cR
  have CV : Hid (∀ w, Calls Try.prog 15 #[.int .i64 n] w fun e w' => e = .returned (.string V) ∧ Below w.heap.size w w') := cV
  have CRV := hide_it cRV
  have CF := hide_it cF
  have CRF := hide_it cRF
  have CD := hide_it cD
  have CRD := hide_it cRD
  have CH := hide_it cH
  have CU := hide_it cU
  have CRR := hide_it cRR
  have CVZ := hide_it cVz
  clear cn cT cR cV cRV cF cRF cD cRD cH cU cRR cVz
  have hm0 : (((m : Int) + 1) == 0) = false := beq_eq_false_iff_ne.2 (by omega)
  have hm1 : (0 : Int) ≤ (m : Int) + 1 := by omega
  have hm2 : (m : Int) + 1 ≤ R.size := by omega
  have hVT : (V ++ T).size ≤ 1000 := by rw [ByteArray.size_append]; omega
  have hFT : (F ++ T).size ≤ 1000 := by rw [ByteArray.size_append]; omega
  go_enter Try.func3, Try.ntmps3
  go_wp2_with fail
  refine (big_any _ _ _ _ (by omega)).mono ?_
  rintro e w' ⟨rfl, rfl⟩
  go_wp2_with fail
  refine (drawVar_any S hS _ hc hl).mono ?_
  rintro e w1 ⟨rfl, b1⟩
  rw [CN.out]
  go_wp2_with fail
  refine (drawHex_any S hS _ (codeW_below hc b1 hl) (Nat.le_trans hl b1.size)).mono ?_
  rintro e w2 ⟨rfl, hb2⟩
  rw [CT.out]
  have b2 := b1.trans (hb2.mono b1.size)
  go_wp2_with fail
  refine (CV.out _).mono ?_
  rintro e w3 ⟨rfl, hb3⟩
  have b3 := b2.trans (hb3.mono b2.size)
  go_wp2_with fail
  refine (CRV.out _).mono ?_
  rintro e w4 ⟨rfl, rfl⟩
  go_wp2_with fail
  refine (CF.out _).mono ?_
  rintro e w5 ⟨rfl, hb5⟩
  have b5 := b3.trans (hb5.mono b3.size)
  go_wp2_with fail
  refine (CRF.out _).mono ?_
  rintro e w6 ⟨rfl, rfl⟩
  go_wp2_with fail
  refine (CD.out _).mono ?_
  rintro e w7 ⟨rfl, hb7⟩
  have b7 := b5.trans (hb7.mono b5.size)
  go_wp2_with fail
  refine (CRD.out _).mono ?_
  rintro e w8 ⟨rfl, rfl⟩
  go_wp2_with fail
  refine (CH.out _).mono ?_
  rintro e w9 ⟨rfl, hb9⟩
  have b9 := b7.trans (hb9.mono b7.size)
  go_wp2_with fail
  refine (CU.out _).mono ?_
  rintro e w10 ⟨rfl, hb10⟩
  have b10 := b9.trans (hb10.mono b9.size)
  go_wp2_with fail
  refine (drawRv_any S hS _ (codeW_below hc b10 hl) (Nat.le_trans hl b10.size)).mono ?_
  rintro e w11 ⟨rfl, hb11⟩
  rw [CR.out]
  have b11 := b10.trans (hb11.mono b10.size)
  go_wp2_with fail
  refine (CRR.out _).mono ?_
  rintro e w12 ⟨rfl, rfl⟩
  go_wp2_with fail
  refine (CVZ.out _).mono ?_
  rintro e w13 ⟨rfl, hb13⟩
  have b13 := b11.trans (hb13.mono b11.size)
  go_wp2_with fail
  refine (drawRv_any S hS _ (codeW_below hc b13 hl) (Nat.le_trans hl b13.size)).mono ?_
  rintro e w14 ⟨rfl, hb14⟩
  rw [CR.out]
  go_wp2
  go_ret
  exact ⟨rfl, b13.trans (hb14.mono b13.size)⟩

set_option linter.unusedVariables false in
set_option maxHeartbeats 3200000 in
theorem numbers_D1z (S : Src) (hS : S.ok) (w : World) (hc : CodeW S w) (hl : S.lim ≤ w.heap.size) (n : Int) (V T F D H R : ByteArray) (x k y : Int) (is : Bool) 
    (hVs : V.size ≤ 7) (hTs : T.size ≤ 40) (hFs : F.size ≤ 7) (h0 : n < 0) (h1 : -1000000000 < n) (hV : V.toList.isEmpty = true) (hF : F.toList.isEmpty = true)
    (cn : drawVar S = n) (cT : strOfNums (drawHex S) = T) (cR : drawRv S = R)
    (cV : ∀ w, Calls Try.prog 15 #[.int .i64 n] w fun e w' => e = .returned (.string V) ∧ Below w.heap.size w w')
    (cRV : ∀ w, Calls Try.prog 16 #[.string (V ++ T)] w fun e w' => e = .returned (.tuple #[.int .i64 x, .int .i64 k]) ∧ w' = w)
    (cF : ∀ w, Calls Try.prog 17 #[.int .i64 n, .int .i64 7] w fun e w' => e = .returned (.string F) ∧ Below w.heap.size w w')
    (cRF : ∀ w, Calls Try.prog 18 #[.string (F ++ T), .int .i64 7] w fun e w' => e = .returned (.tuple #[.int .i64 y, .bool is]) ∧ w' = w)
    (cD : ∀ w, Calls Try.prog 20 #[.int .i64 n] w fun e w' => e = .returned (.string D) ∧ Below w.heap.size w w')
    (cRD : ∀ w, Calls Try.prog 19 #[.string D] w fun e w' => e = .returned (.tuple #[.int .i64 n, .bool true]) ∧ w' = w)
    (cH : ∀ w, Calls Try.prog 22 #[.string T] w fun e w' => e = .returned (.string H) ∧ Below w.heap.size w w')
    (cU : ∀ w, Calls Try.prog 21 #[.string H] w fun e w' => e = .returned (.tuple #[.string T, .bool true]) ∧ Below w.heap.size w w')
    (cRR : ∀ w, Calls Try.prog 16 #[.string R] w fun e w' => e = .returned (.tuple #[.int .i64 0, .int .i64 0]) ∧ w' = w)
    : Calls Try.prog 3 #[.slice S.a S.len S.cap] w fun e w' => e = .returned (.bool true) ∧ Below w.heap.size w w' := by
  have hlen := hS.1
  have hbig : decide ((1048576 : Int) < S.len) = false := by simp; omega
  have CN : Hid (drawVar S = n) := cn
  have CT : Hid (strOfNums (drawHex S) = T) := cT
  have CR : Hid (drawRv S = R) := cR
  have CV : Hid (∀ w, Calls Try.prog 15 #[.int .i64 n] w fun e w' => e = .returned (.string V) ∧ Below w.heap.size w w') := cV
  have CRV := hide_it cRV
  have CF := hide_it cF
  have CRF := hide_it cRF
  have CD := hide_it cD
  have CRD := hide_it cRD
  have CH := hide_it cH
  have CU := hide_it cU
  have CRR := hide_it cRR
  clear cn cT cR cV cRV cF cRF cD cRD cH cU cRR
  have hVT : (V ++ T).size ≤ 1000 := by rw [ByteArray.size_append]; omega
  have hFT : (F ++ T).size ≤ 1000 := by rw [ByteArray.size_append]; omega
  go_enter Try.func3, Try.ntmps3
  go_wp2_with fail
  refine (big_any _ _ _ _ (by omega)).mono ?_
  rintro e w' ⟨rfl, rfl⟩
  go_wp2_with fail
  refine (drawVar_any S hS _ hc hl).mono ?_
  rintro e w1 ⟨rfl, b1⟩
  rw [CN.out]
  go_wp2_with fail
  refine (drawHex_any S hS _ (codeW_below hc b1 hl) (Nat.le_trans hl b1.size)).mono ?_
  rintro e w2 ⟨rfl, hb2⟩
  rw [CT.out]
  have b2 := b1.trans (hb2.mono b1.size)
  go_wp2_with fail
  refine (CV.out _).mono ?_
  rintro e w3 ⟨rfl, hb3⟩
  have b3 := b2.trans (hb3.mono b2.size)
  go_wp2_with fail
  refine (CRV.out _).mono ?_
  rintro e w4 ⟨rfl, rfl⟩
  go_wp2_with fail
  refine (CF.out _).mono ?_
  rintro e w5 ⟨rfl, hb5⟩
  have b5 := b3.trans (hb5.mono b3.size)
  go_wp2_with fail
  refine (CRF.out _).mono ?_
  rintro e w6 ⟨rfl, rfl⟩
  go_wp2_with fail
  refine (CD.out _).mono ?_
  rintro e w7 ⟨rfl, hb7⟩
  have b7 := b5.trans (hb7.mono b5.size)
  go_wp2_with fail
  refine (CRD.out _).mono ?_
  rintro e w8 ⟨rfl, rfl⟩
  go_wp2_with fail
  refine (CH.out _).mono ?_
  rintro e w9 ⟨rfl, hb9⟩
  have b9 := b7.trans (hb9.mono b7.size)
  go_wp2_with fail
  refine (CU.out _).mono ?_
  rintro e w10 ⟨rfl, hb10⟩
  have b10 := b9.trans (hb10.mono b9.size)
  go_wp2_with fail
  refine (drawRv_any S hS _ (codeW_below hc b10 hl) (Nat.le_trans hl b10.size)).mono ?_
  rintro e w11 ⟨rfl, hb11⟩
  rw [CR.out]
  have b11 := b10.trans (hb11.mono b10.size)
  go_wp2_with fail
  refine (CRR.out _).mono ?_
  rintro e w12 ⟨rfl, rfl⟩
  go_wp2
  go_ret
  exact ⟨rfl, b11⟩

set_option linter.unusedVariables false in
set_option maxHeartbeats 3200000 in
theorem numbers_D1v (S : Src) (hS : S.ok) (w : World) (hc : CodeW S w) (hl : S.lim ≤ w.heap.size) (n : Int) (V T F D H R : ByteArray) (x k y : Int) (is : Bool) (z : Int) (m : Nat)
    (hVs : V.size ≤ 7) (hTs : T.size ≤ 40) (hFs : F.size ≤ 7) (h0 : n < 0) (h1 : -1000000000 < n) (hV : V.toList.isEmpty = true) (hF : F.toList.isEmpty = true)
    (cn : drawVar S = n) (cT : strOfNums (drawHex S) = T) (cR : drawRv S = R)
    (cV : ∀ w, Calls Try.prog 15 #[.int .i64 n] w fun e w' => e = .returned (.string V) ∧ Below w.heap.size w w')
    (cRV : ∀ w, Calls Try.prog 16 #[.string (V ++ T)] w fun e w' => e = .returned (.tuple #[.int .i64 x, .int .i64 k]) ∧ w' = w)
    (cF : ∀ w, Calls Try.prog 17 #[.int .i64 n, .int .i64 7] w fun e w' => e = .returned (.string F) ∧ Below w.heap.size w w')
    (cRF : ∀ w, Calls Try.prog 18 #[.string (F ++ T), .int .i64 7] w fun e w' => e = .returned (.tuple #[.int .i64 y, .bool is]) ∧ w' = w)
    (cD : ∀ w, Calls Try.prog 20 #[.int .i64 n] w fun e w' => e = .returned (.string D) ∧ Below w.heap.size w w')
    (cRD : ∀ w, Calls Try.prog 19 #[.string D] w fun e w' => e = .returned (.tuple #[.int .i64 n, .bool true]) ∧ w' = w)
    (cH : ∀ w, Calls Try.prog 22 #[.string T] w fun e w' => e = .returned (.string H) ∧ Below w.heap.size w w')
    (cU : ∀ w, Calls Try.prog 21 #[.string H] w fun e w' => e = .returned (.tuple #[.string T, .bool true]) ∧ Below w.heap.size w w')
    (cRR : ∀ w, Calls Try.prog 16 #[.string R] w fun e w' => e = .returned (.tuple #[.int .i64 z, .int .i64 ((m : Int) + 1)]) ∧ w' = w)
    (cVz : ∀ w, Calls Try.prog 15 #[.int .i64 z] w fun e w' => e = .returned (.string (R.extract 0 (m + 1))) ∧ Below w.heap.size w w') (hm : m + 1 ≤ R.size)
    : Calls Try.prog 3 #[.slice S.a S.len S.cap] w fun e w' => e = .returned (.bool true) ∧ Below w.heap.size w w' := by
  have hlen := hS.1
  have hbig : decide ((1048576 : Int) < S.len) = false := by simp; omega
  have CN : Hid (drawVar S = n) := cn
  have CT : Hid (strOfNums (drawHex S) = T) := cT
  have CR : Hid (drawRv S = R) := cR
  have CV : Hid (∀ w, Calls Try.prog 15 #[.int .i64 n] w fun e w' => e = .returned (.string V) ∧ Below w.heap.size w w') := cV
  have CRV := hide_it cRV
  have CF := hide_it cF
  have CRF := hide_it cRF
  have CD := hide_it cD
  have CRD := hide_it cRD
  have CH := hide_it cH
  have CU := hide_it cU
  have CRR := hide_it cRR
  have CVZ := hide_it cVz
  clear cn cT cR cV cRV cF cRF cD cRD cH cU cRR cVz
  have hm0 : (((m : Int) + 1) == 0) = false := beq_eq_false_iff_ne.2 (by omega)
  have hm1 : (0 : Int) ≤ (m : Int) + 1 := by omega
  have hm2 : (m : Int) + 1 ≤ R.size := by omega
  have hVT : (V ++ T).size ≤ 1000 := by rw [ByteArray.size_append]; omega
  have hFT : (F ++ T).size ≤ 1000 := by rw [ByteArray.size_append]; omega
  go_enter Try.func3, Try.ntmps3
  go_wp2_with fail
  refine (big_any _ _ _ _ (by omega)).mono ?_
  rintro e w' ⟨rfl, rfl⟩
  go_wp2_with fail
  refine (drawVar_any S hS _ hc hl).mono ?_
  rintro e w1 ⟨rfl, b1⟩
  rw [CN.out]
  go_wp2_with fail
  refine (drawHex_any S hS _ (codeW_below hc b1 hl) (Nat.le_trans hl b1.size)).mono ?_
  rintro e w2 ⟨rfl, hb2⟩
  rw [CT.out]
  have b2 := b1.trans (hb2.mono b1.size)
  go_wp2_with fail
  refine (CV.out _).mono ?_
  rintro e w3 ⟨rfl, hb3⟩
  have b3 := b2.trans (hb3.mono b2.size)
  go_wp2_with fail
  refine (CRV.out _).mono ?_
  rintro e w4 ⟨rfl, rfl⟩
  go_wp2_with fail
  refine (CF.out _).mono ?_
  rintro e w5 ⟨rfl, hb5⟩
  have b5 := b3.trans (hb5.mono b3.size)
  go_wp2_with fail
  refine (CRF.out _).mono ?_
  rintro e w6 ⟨rfl, rfl⟩
  go_wp2_with fail
  refine (CD.out _).mono ?_
  rintro e w7 ⟨rfl, hb7⟩
  have b7 := b5.trans (hb7.mono b5.size)
  go_wp2_with fail
  refine (CRD.out _).mono ?_
  rintro e w8 ⟨rfl, rfl⟩
  go_wp2_with fail
  refine (CH.out _).mono ?_
  rintro e w9 ⟨rfl, hb9⟩
  have b9 := b7.trans (hb9.mono b7.size)
  go_wp2_with fail
  refine (CU.out _).mono ?_
  rintro e w10 ⟨rfl, hb10⟩
  have b10 := b9.trans (hb10.mono b9.size)
  go_wp2_with fail
  refine (drawRv_any S hS _ (codeW_below hc b10 hl) (Nat.le_trans hl b10.size)).mono ?_
  rintro e w11 ⟨rfl, hb11⟩
  rw [CR.out]
  have b11 := b10.trans (hb11.mono b10.size)
  go_wp2_with fail
  refine (CRR.out _).mono ?_
  rintro e w12 ⟨rfl, rfl⟩
  go_wp2_with fail
  refine (CVZ.out _).mono ?_
  rintro e w13 ⟨rfl, hb13⟩
  have b13 := b11.trans (hb13.mono b11.size)
  go_wp2_with fail
  refine (drawRv_any S hS _ (codeW_below hc b13 hl) (Nat.le_trans hl b13.size)).mono ?_
  rintro e w14 ⟨rfl, hb14⟩
  rw [CR.out]
  go_wp2
  go_ret
  exact ⟨rfl, b13.trans (hb14.mono b13.size)⟩

set_option linter.unusedVariables false in
set_option maxHeartbeats 3200000 in
theorem numbers_D2z (S : Src) (hS : S.ok) (w : World) (hc : CodeW S w) (hl : S.lim ≤ w.heap.size) (n : Int) (V T F D H R : ByteArray) (x k y d : Int) (is : Bool) 
    (hVs : V.size ≤ 7) (hTs : T.size ≤ 40) (hFs : F.size ≤ 7) (h0 : n ≤ -1000000000) (hV : V.toList.isEmpty = true) (hF : F.toList.isEmpty = true)
    (cn : drawVar S = n) (cT : strOfNums (drawHex S) = T) (cR : drawRv S = R)
    (cV : ∀ w, Calls Try.prog 15 #[.int .i64 n] w fun e w' => e = .returned (.string V) ∧ Below w.heap.size w w')
    (cRV : ∀ w, Calls Try.prog 16 #[.string (V ++ T)] w fun e w' => e = .returned (.tuple #[.int .i64 x, .int .i64 k]) ∧ w' = w)
    (cF : ∀ w, Calls Try.prog 17 #[.int .i64 n, .int .i64 7] w fun e w' => e = .returned (.string F) ∧ Below w.heap.size w w')
    (cRF : ∀ w, Calls Try.prog 18 #[.string (F ++ T), .int .i64 7] w fun e w' => e = .returned (.tuple #[.int .i64 y, .bool is]) ∧ w' = w)
    (cD : ∀ w, Calls Try.prog 20 #[.int .i64 n] w fun e w' => e = .returned (.string D) ∧ Below w.heap.size w w')
    (cRD : ∀ w, Calls Try.prog 19 #[.string D] w fun e w' => e = .returned (.tuple #[.int .i64 d, .bool false]) ∧ w' = w)
    (cH : ∀ w, Calls Try.prog 22 #[.string T] w fun e w' => e = .returned (.string H) ∧ Below w.heap.size w w')
    (cU : ∀ w, Calls Try.prog 21 #[.string H] w fun e w' => e = .returned (.tuple #[.string T, .bool true]) ∧ Below w.heap.size w w')
    (cRR : ∀ w, Calls Try.prog 16 #[.string R] w fun e w' => e = .returned (.tuple #[.int .i64 0, .int .i64 0]) ∧ w' = w)
    : Calls Try.prog 3 #[.slice S.a S.len S.cap] w fun e w' => e = .returned (.bool true) ∧ Below w.heap.size w w' := by
  have hlen := hS.1
  have hbig : decide ((1048576 : Int) < S.len) = false := by simp; omega
  have CN : Hid (drawVar S = n) := cn
  have CT : Hid (strOfNums (drawHex S) = T) := cT
  have CR : Hid (drawRv S = R) := cR
  have CV : Hid (∀ w, Calls Try.prog 15 #[.int .i64 n] w fun e w' => e = .returned (.string V) ∧ Below w.heap.size w w') := cV
  have CRV := hide_it cRV
  have CF := hide_it cF
  have CRF := hide_it cRF
  have CD := hide_it cD
  have CRD := hide_it cRD
  have CH := hide_it cH
  have CU := hide_it cU
  have CRR := hide_it cRR
  clear cn cT cR cV cRV cF cRF cD cRD cH cU cRR
  have hVT : (V ++ T).size ≤ 1000 := by rw [ByteArray.size_append]; omega
  have hFT : (F ++ T).size ≤ 1000 := by rw [ByteArray.size_append]; omega
  go_enter Try.func3, Try.ntmps3
  go_wp2_with fail
  refine (big_any _ _ _ _ (by omega)).mono ?_
  rintro e w' ⟨rfl, rfl⟩
  go_wp2_with fail
  refine (drawVar_any S hS _ hc hl).mono ?_
  rintro e w1 ⟨rfl, b1⟩
  rw [CN.out]
  go_wp2_with fail
  refine (drawHex_any S hS _ (codeW_below hc b1 hl) (Nat.le_trans hl b1.size)).mono ?_
  rintro e w2 ⟨rfl, hb2⟩
  rw [CT.out]
  have b2 := b1.trans (hb2.mono b1.size)
  go_wp2_with fail
  refine (CV.out _).mono ?_
  rintro e w3 ⟨rfl, hb3⟩
  have b3 := b2.trans (hb3.mono b2.size)
  go_wp2_with fail
  refine (CRV.out _).mono ?_
  rintro e w4 ⟨rfl, rfl⟩
  go_wp2_with fail
  refine (CF.out _).mono ?_
  rintro e w5 ⟨rfl, hb5⟩
  have b5 := b3.trans (hb5.mono b3.size)
  go_wp2_with fail
  refine (CRF.out _).mono ?_
  rintro e w6 ⟨rfl, rfl⟩
  go_wp2_with fail
  refine (CD.out _).mono ?_
  rintro e w7 ⟨rfl, hb7⟩
  have b7 := b5.trans (hb7.mono b5.size)
  go_wp2_with fail
  refine (CRD.out _).mono ?_
  rintro e w8 ⟨rfl, rfl⟩
  go_wp2_with fail
  refine (CH.out _).mono ?_
  rintro e w9 ⟨rfl, hb9⟩
  have b9 := b7.trans (hb9.mono b7.size)
  go_wp2_with fail
  refine (CU.out _).mono ?_
  rintro e w10 ⟨rfl, hb10⟩
  have b10 := b9.trans (hb10.mono b9.size)
  go_wp2_with fail
  refine (drawRv_any S hS _ (codeW_below hc b10 hl) (Nat.le_trans hl b10.size)).mono ?_
  rintro e w11 ⟨rfl, hb11⟩
  rw [CR.out]
  have b11 := b10.trans (hb11.mono b10.size)
  go_wp2_with fail
  refine (CRR.out _).mono ?_
  rintro e w12 ⟨rfl, rfl⟩
  go_wp2
  go_ret
  exact ⟨rfl, b11⟩

set_option linter.unusedVariables false in
set_option maxHeartbeats 3200000 in
theorem numbers_D2v (S : Src) (hS : S.ok) (w : World) (hc : CodeW S w) (hl : S.lim ≤ w.heap.size) (n : Int) (V T F D H R : ByteArray) (x k y d : Int) (is : Bool) (z : Int) (m : Nat)
    (hVs : V.size ≤ 7) (hTs : T.size ≤ 40) (hFs : F.size ≤ 7) (h0 : n ≤ -1000000000) (hV : V.toList.isEmpty = true) (hF : F.toList.isEmpty = true)
    (cn : drawVar S = n) (cT : strOfNums (drawHex S) = T) (cR : drawRv S = R)
    (cV : ∀ w, Calls Try.prog 15 #[.int .i64 n] w fun e w' => e = .returned (.string V) ∧ Below w.heap.size w w')
    (cRV : ∀ w, Calls Try.prog 16 #[.string (V ++ T)] w fun e w' => e = .returned (.tuple #[.int .i64 x, .int .i64 k]) ∧ w' = w)
    (cF : ∀ w, Calls Try.prog 17 #[.int .i64 n, .int .i64 7] w fun e w' => e = .returned (.string F) ∧ Below w.heap.size w w')
    (cRF : ∀ w, Calls Try.prog 18 #[.string (F ++ T), .int .i64 7] w fun e w' => e = .returned (.tuple #[.int .i64 y, .bool is]) ∧ w' = w)
    (cD : ∀ w, Calls Try.prog 20 #[.int .i64 n] w fun e w' => e = .returned (.string D) ∧ Below w.heap.size w w')
    (cRD : ∀ w, Calls Try.prog 19 #[.string D] w fun e w' => e = .returned (.tuple #[.int .i64 d, .bool false]) ∧ w' = w)
    (cH : ∀ w, Calls Try.prog 22 #[.string T] w fun e w' => e = .returned (.string H) ∧ Below w.heap.size w w')
    (cU : ∀ w, Calls Try.prog 21 #[.string H] w fun e w' => e = .returned (.tuple #[.string T, .bool true]) ∧ Below w.heap.size w w')
    (cRR : ∀ w, Calls Try.prog 16 #[.string R] w fun e w' => e = .returned (.tuple #[.int .i64 z, .int .i64 ((m : Int) + 1)]) ∧ w' = w)
    (cVz : ∀ w, Calls Try.prog 15 #[.int .i64 z] w fun e w' => e = .returned (.string (R.extract 0 (m + 1))) ∧ Below w.heap.size w w') (hm : m + 1 ≤ R.size)
    : Calls Try.prog 3 #[.slice S.a S.len S.cap] w fun e w' => e = .returned (.bool true) ∧ Below w.heap.size w w' := by
  have hlen := hS.1
  have hbig : decide ((1048576 : Int) < S.len) = false := by simp; omega
  have CN : Hid (drawVar S = n) := cn
  have CT : Hid (strOfNums (drawHex S) = T) := cT
  have CR : Hid (drawRv S = R) := cR
  have CV : Hid (∀ w, Calls Try.prog 15 #[.int .i64 n] w fun e w' => e = .returned (.string V) ∧ Below w.heap.size w w') := cV
  have CRV := hide_it cRV
  have CF := hide_it cF
  have CRF := hide_it cRF
  have CD := hide_it cD
  have CRD := hide_it cRD
  have CH := hide_it cH
  have CU := hide_it cU
  have CRR := hide_it cRR
  have CVZ := hide_it cVz
  clear cn cT cR cV cRV cF cRF cD cRD cH cU cRR cVz
  have hm0 : (((m : Int) + 1) == 0) = false := beq_eq_false_iff_ne.2 (by omega)
  have hm1 : (0 : Int) ≤ (m : Int) + 1 := by omega
  have hm2 : (m : Int) + 1 ≤ R.size := by omega
  have hVT : (V ++ T).size ≤ 1000 := by rw [ByteArray.size_append]; omega
  have hFT : (F ++ T).size ≤ 1000 := by rw [ByteArray.size_append]; omega
  go_enter Try.func3, Try.ntmps3
  go_wp2_with fail
  refine (big_any _ _ _ _ (by omega)).mono ?_
  rintro e w' ⟨rfl, rfl⟩
  go_wp2_with fail
  refine (drawVar_any S hS _ hc hl).mono ?_
  rintro e w1 ⟨rfl, b1⟩
  rw [CN.out]
  go_wp2_with fail
  refine (drawHex_any S hS _ (codeW_below hc b1 hl) (Nat.le_trans hl b1.size)).mono ?_
  rintro e w2 ⟨rfl, hb2⟩
  rw [CT.out]
  have b2 := b1.trans (hb2.mono b1.size)
  go_wp2_with fail
  refine (CV.out _).mono ?_
  rintro e w3 ⟨rfl, hb3⟩
  have b3 := b2.trans (hb3.mono b2.size)
  go_wp2_with fail
  refine (CRV.out _).mono ?_
  rintro e w4 ⟨rfl, rfl⟩
  go_wp2_with fail
  refine (CF.out _).mono ?_
  rintro e w5 ⟨rfl, hb5⟩
  have b5 := b3.trans (hb5.mono b3.size)
  go_wp2_with fail
  refine (CRF.out _).mono ?_
  rintro e w6 ⟨rfl, rfl⟩
  go_wp2_with fail
  refine (CD.out _).mono ?_
  rintro e w7 ⟨rfl, hb7⟩
  have b7 := b5.trans (hb7.mono b5.size)
  go_wp2_with fail
  refine (CRD.out _).mono ?_
  rintro e w8 ⟨rfl, rfl⟩
  go_wp2_with fail
  refine (CH.out _).mono ?_
  rintro e w9 ⟨rfl, hb9⟩
  have b9 := b7.trans (hb9.mono b7.size)
  go_wp2_with fail
  refine (CU.out _).mono ?_
  rintro e w10 ⟨rfl, hb10⟩
  have b10 := b9.trans (hb10.mono b9.size)
  go_wp2_with fail
  refine (drawRv_any S hS _ (codeW_below hc b10 hl) (Nat.le_trans hl b10.size)).mono ?_
  rintro e w11 ⟨rfl, hb11⟩
  rw [CR.out]
  have b11 := b10.trans (hb11.mono b10.size)
  go_wp2_with fail
  refine (CRR.out _).mono ?_
  rintro e w12 ⟨rfl, rfl⟩
  go_wp2_with fail
  refine (CVZ.out _).mono ?_
  rintro e w13 ⟨rfl, hb13⟩
  have b13 := b11.trans (hb13.mono b11.size)
  go_wp2_with fail
  refine (drawRv_any S hS _ (codeW_below hc b13 hl) (Nat.le_trans hl b13.size)).mono ?_
  rintro e w14 ⟨rfl, hb14⟩
  rw [CR.out]
  go_wp2
  go_ret
  exact ⟨rfl, b13.trans (hb14.mono b13.size)⟩

theorem isEmpty_made (l : List Int) : (strOfNums l).toList.isEmpty = l.isEmpty := by
  rw [Lib.toList_data, strOfNums_data, List.isEmpty_map]
theorem isEmpty_len {l : List Int} (h : 1 ≤ l.length) : l.isEmpty = false := by
  cases l with
  | nil => simp at h
  | cons a l => rfl
theorem spoil_size (S : Src) (q : Nat × Int) (s : ByteArray) : (spoil S q s).1.size ≤ s.size + 4 := by
  have h3 := tx_len S q 3 (by omega)
  unfold spoil
  split
  · simp only [strOfNums_size]; omega
  · split
    · simp only [ByteArray.size_append, ByteArray.size_extract]; omega
    · split
      · simp only [ByteArray.size_append, ByteArray.size_extract, strOfNums_size, List.length_cons, List.length_nil]; omega
      · split
        · simp only [ByteArray.size_extract]; omega
        · simp only [ByteArray.size_append, ByteArray.size_extract, strOfNums_size, List.length_cons, List.length_nil]; omega
theorem drawRv_size (S : Src) : (drawRv S).size ≤ 15 := by
  have h0 := drawRv0_size S
  unfold drawRv
  split
  · have := spoil_size S (bw S (tx S (nm S (start S)).2 4).2 4).2 (drawRv0 S)
    omega
  · omega
theorem hi_iff (n : Int) (h : 0 ≤ n) : n / 2 ^ (8 * 7) = 0 ↔ n < 72057594037927936 := by
  have e : (2 : Int) ^ (8 * 7) = 72057594037927936 := by decide
  rw [e]
  omega

set_option maxHeartbeats 800000 in
theorem numbers_any (S : Src) (hS : S.ok) (w : World) (hc : CodeW S w) (hl : S.lim ≤ w.heap.size) :
    Calls Try.prog 3 #[.slice S.a S.len S.cap] w fun e w' => e = .returned (.bool true) ∧ Below w.heap.size w w' := by
  have hb := nm_bd S (start S)
  have hTs : (strOfNums (drawHex S)).size ≤ 40 := by rw [strOfNums_size]; have := tx_len S (start S) 40 (by omega); unfold drawHex; omega
  have hRs := drawRv_size S
  have cn : drawVar S = (nm S (start S)).1 := rfl
  generalize (nm S (start S)).1 = n at *
  generalize hT : strOfNums (drawHex S) = T at *
  generalize hR : drawRv S = R at *
  have hVs : (strOfNums (varL n)).size ≤ 7 := by rw [strOfNums_size]; exact varL_len _
  have hFs : (strOfNums (fxL n 7)).size ≤ 7 := by
    rw [strOfNums_size]
    unfold fxL
    split
    · rw [dl_length]; decide
    · simp
  have hDs : (strOfNums (decL n)).size ≤ 1000 := by
    rw [strOfNums_size]
    have hd := dcn_facts (absI n) (by unfold absI; split <;> omega) (by unfold absI; split <;> omega)
    unfold decL
    rw [List.length_append, dgk_length]
    split <;> simp <;> omega
  have hHs : (strOfNums (hexL T T.size)).size ≤ 1048576 := by rw [strOfNums_size, hexL_length]; omega
  have cV := fun w => var_impl n w
  have cF := fun w => fixed_impl n 7 w hb
  have cD := fun w => dec_impl n w hb
  have cH := fun w => hex_impl T w (by omega)
  have cU : ∀ w, Calls Try.prog 21 #[.string (strOfNums (hexL T T.size))] w fun e w' => e = .returned (.tuple #[.string T, .bool true]) ∧ Below w.heap.size w w' := by
    intro w
    have h := unhex_impl (strOfNums (hexL T T.size)) w hHs
    rw [(unhex_hex T).1, (unhex_hex T).2] at h
    exact h
  have hrd := readDec_dec n hb
  have cRD := fun w => readDec_impl (strOfNums (decL n)) w (by omega)
  have cRV := fun w => readVar_impl (strOfNums (varL n) ++ T) w (by rw [ByteArray.size_append]; omega)
  have cRF := fun w => readFixed_impl (strOfNums (fxL n 7) ++ T) 7 w (by rw [ByteArray.size_append]; omega)
  have cRR := fun w => readVar_impl R w (by omega)
  have cRD1 : -1000000000 < n ∧ n < 1000000000 → ∀ w, Calls Try.prog 19 #[.string (strOfNums (decL n))] w fun e w' => e = .returned (.tuple #[.int .i64 n, .bool true]) ∧ w' = w := by
    intro hn w
    have h := cRD w
    rw [hrd.1, hrd.2 hn, decide_eq_true hn] at h
    exact h
  have cRD2 : ¬ (-1000000000 < n ∧ n < 1000000000) → ∀ w, Calls Try.prog 19 #[.string (strOfNums (decL n))] w fun e w' => e = .returned (.tuple #[.int .i64 (rdV (strOfNums (decL n))), .bool false]) ∧ w' = w := by
    intro hn w
    have h := cRD w
    rw [hrd.1, decide_eq_false hn] at h
    exact h
  have cRV1 : 0 ≤ n → n ≤ 562949953421311 → ∀ w, Calls Try.prog 16 #[.string (strOfNums (varL n) ++ T)] w fun e w' => e = .returned (.tuple #[.int .i64 n, .int .i64 ((strOfNums (varL n)).size : Nat)]) ∧ w' = w := by
    intro h0 h1 w
    have h := cRV w
    rw [varL_yes h0 h1, readVar_var n T h0 h1] at h
    rw [varL_yes h0 h1, strOfNums_size]
    exact h
  have cRF1 : 0 ≤ n → n < 72057594037927936 → ∀ w, Calls Try.prog 18 #[.string (strOfNums (fxL n 7) ++ T), .int .i64 7] w fun e w' => e = .returned (.tuple #[.int .i64 n, .bool true]) ∧ w' = w := by
    intro h0 h1 w
    have h := cRF w
    have hf := (hi_iff n h0).2 h1
    have e : fxL n 7 = dl n 7 := fxL_yes (m := 7) (by omega) (by omega) h0 hf
    rw [e, (readFixed_fixed n T hf).1, (readFixed_fixed n T hf).2] at h
    rw [e]
    exact h
  have eV1 : 0 ≤ n → n ≤ 562949953421311 → (strOfNums (varL n)).toList.isEmpty = false := by
    intro h0 h1
    rw [isEmpty_made, varL_yes h0 h1]
    exact isEmpty_len (vl_length 6 n).1
  have eV0 : ¬ (0 ≤ n ∧ n ≤ 562949953421311) → (strOfNums (varL n)).toList.isEmpty = true := by
    intro h
    rw [isEmpty_made, varL_no h]
    rfl
  have eF1 : 0 ≤ n → n < 72057594037927936 → (strOfNums (fxL n 7)).toList.isEmpty = false ∧ (strOfNums (fxL n 7)).size = 7 := by
    intro h0 h1
    have e : fxL n 7 = dl n 7 := fxL_yes (m := 7) (by omega) (by omega) h0 ((hi_iff n h0).2 h1)
    rw [isEmpty_made, strOfNums_size, e]
    exact ⟨isEmpty_len (by rw [dl_length]; decide), dl_length n 7⟩
  have eF0 : ¬ (0 ≤ n ∧ n < 72057594037927936) → (strOfNums (fxL n 7)).toList.isEmpty = true := by
    intro h
    rw [isEmpty_made, fxL_no (n := n) (m := 7) (fun k => h ⟨k.2.2.1, (hi_iff n k.2.2.1).1 k.2.2.2⟩)]
    rfl
  rcases rvAns_cases R with hr | ⟨m, hm7, hms, hr, hex⟩
  · rw [hr] at cRR
    by_cases h0 : 0 ≤ n
    · by_cases h1 : n ≤ 562949953421311
      · by_cases h9 : n < 1000000000
        · exact numbers_A1z S hS w hc hl n _ T _ _ _ R hVs hTs hFs h0 h9 (eV1 h0 h1) (eF1 h0 (by omega)).1 (eF1 h0 (by omega)).2 cn hT hR cV (cRV1 h0 h1) cF (cRF1 h0 (by omega)) cD (cRD1 (by omega)) cH cU cRR
        · exact numbers_A2z S hS w hc hl n _ T _ _ _ R _ hVs hTs hFs (by omega) h1 (eV1 h0 h1) (eF1 h0 (by omega)).1 (eF1 h0 (by omega)).2 cn hT hR cV (cRV1 h0 h1) cF (cRF1 h0 (by omega)) cD (cRD2 (by omega)) cH cU cRR
      · by_cases h5 : n < 72057594037927936
        · exact numbers_Bz S hS w hc hl n _ T _ _ _ R _ _ _ hVs hTs hFs (by omega) h5 (eV0 (by omega)) (eF1 h0 h5).1 (eF1 h0 h5).2 cn hT hR cV cRV cF (cRF1 h0 h5) cD (cRD2 (by omega)) cH cU cRR
        · exact numbers_Cz S hS w hc hl n _ T _ _ _ R _ _ _ _ _ hVs hTs hFs (by omega) (eV0 (by omega)) (eF0 (by omega)) cn hT hR cV cRV cF cRF cD (cRD2 (by omega)) cH cU cRR
    · by_cases h9 : -1000000000 < n
      · exact numbers_D1z S hS w hc hl n _ T _ _ _ R _ _ _ _ hVs hTs hFs (by omega) h9 (eV0 (by omega)) (eF0 (by omega)) cn hT hR cV cRV cF cRF cD (cRD1 (by omega)) cH cU cRR
      · exact numbers_D2z S hS w hc hl n _ T _ _ _ R _ _ _ _ _ hVs hTs hFs (by omega) (eV0 (by omega)) (eF0 (by omega)) cn hT hR cV cRV cF cRF cD (cRD2 (by omega)) cH cU cRR
  · rw [hr] at cRR
    have cVz : ∀ w, Calls Try.prog 15 #[.int .i64 (rv R (m + 1))] w fun e w' => e = .returned (.string (R.extract 0 (m + 1))) ∧ Below w.heap.size w w' := by
      intro w
      have h := var_impl (rv R (m + 1)) w
      rw [hex] at h
      exact h
    by_cases h0 : 0 ≤ n
    · by_cases h1 : n ≤ 562949953421311
      · by_cases h9 : n < 1000000000
        · exact numbers_A1v S hS w hc hl n _ T _ _ _ R (rv R (m + 1)) m hVs hTs hFs h0 h9 (eV1 h0 h1) (eF1 h0 (by omega)).1 (eF1 h0 (by omega)).2 cn hT hR cV (cRV1 h0 h1) cF (cRF1 h0 (by omega)) cD (cRD1 (by omega)) cH cU cRR cVz hms
        · exact numbers_A2v S hS w hc hl n _ T _ _ _ R _ (rv R (m + 1)) m hVs hTs hFs (by omega) h1 (eV1 h0 h1) (eF1 h0 (by omega)).1 (eF1 h0 (by omega)).2 cn hT hR cV (cRV1 h0 h1) cF (cRF1 h0 (by omega)) cD (cRD2 (by omega)) cH cU cRR cVz hms
      · by_cases h5 : n < 72057594037927936
        · exact numbers_Bv S hS w hc hl n _ T _ _ _ R _ _ _ (rv R (m + 1)) m hVs hTs hFs (by omega) h5 (eV0 (by omega)) (eF1 h0 h5).1 (eF1 h0 h5).2 cn hT hR cV cRV cF (cRF1 h0 h5) cD (cRD2 (by omega)) cH cU cRR cVz hms
        · exact numbers_Cv S hS w hc hl n _ T _ _ _ R _ _ _ _ _ (rv R (m + 1)) m hVs hTs hFs (by omega) (eV0 (by omega)) (eF0 (by omega)) cn hT hR cV cRV cF cRF cD (cRD2 (by omega)) cH cU cRR cVz hms
    · by_cases h9 : -1000000000 < n
      · exact numbers_D1v S hS w hc hl n _ T _ _ _ R _ _ _ _ (rv R (m + 1)) m hVs hTs hFs (by omega) h9 (eV0 (by omega)) (eF0 (by omega)) cn hT hR cV cRV cF cRF cD (cRD1 (by omega)) cH cU cRR cVz hms
      · exact numbers_D2v S hS w hc hl n _ T _ _ _ R _ _ _ _ _ (rv R (m + 1)) m hVs hTs hFs (by omega) (eV0 (by omega)) (eF0 (by omega)) cn hT hR cV cRV cF cRF cD (cRD2 (by omega)) cH cU cRR cVz hms
end Go.Proofs.Ytogdhepmbbgmbaa
