/-
  What spec's l4Item answers outside of a script: the walks.
  What spec.Parse answers: the walk.
-/
import Derived.Test.YtgchhhmfloemlaaGreatClSpecParseOToSpecParseP
import Derived.Test.YtgchhhmfloemlaaGreatClParseMemToModMem
namespace Go.Proofs.YtgchhhmfloemlaaGreat
open Go.RowKit Go.PlainAid

set_option maxRecDepth 100000 in
set_option maxHeartbeats 6400000 in
theorem zna (ts : List Tk) (fin : Nat) (gt cap base : Nat) (S : Sv) (q : PS) (w : World) (hm : Mem (Cx.mk ts fin false) gt cap base S q w) (h0 : isT (Cx.mk ts fin false) q.pos 1 zbn = true) :
  Calls Tryz.prog 46 #[pv (Cx.mk ts fin false) gt cap S q (-1) 0] w (Out (Cx.mk ts fin false) gt cap base (zbd (Cx.mk ts fin false) q) 0 S w):=by
 have HM : Hid (Mem (Cx.mk ts fin false) gt cap base S q w):=hm
 have htok:=hm.tok
 have hfew : (Cx.mk ts fin false).ts.length ≤ 4000:=hm.few
 clear hm
 have HV : Hid (zbd (Cx.mk ts fin false) q = zct (Cx.mk ts fin false) q):=by show zbd (Cx.mk ts fin false) q = _; rw [zbd,h0]; rfl
 unfold pv
 go_enter Tryz.func46,Tryz.ntmps46
 go_wp2_with fail
 refine (zf (Cx.mk ts fin false) gt cap base S q (-1) 0 1 zbn _ (zg (zg htok _) _) hfew (by decide)).mono ?_
 rintro e w1 ⟨rfl,hb1⟩
 rw [h0]
 obtain ⟨X0,X1,m1,t1⟩:=HM.out.two hb1
 have hX0 : Hid (Bx gt S w1 _ _):=X0
 have hX1 : Hid (Bx gt S w1 _ _):=X1
 have hm1 : Hid (Mem (Cx.mk ts fin false) gt cap base S q w1):=m1
 have ht1 : Hid (SB w.heap.size S w S w1):=t1
 clear X0 X1 m1 t1 hb1
 clear htok
 obtain ⟨a0,a1,a2,a3,a4,a5,a6,a7,a8,a9,a10,a11,af⟩:=hX0.out.box
 go_wp2_with fail
 refine (zuj (Cx.mk ts fin false) gt cap base S q _ hm1.out h0).mono ?_
 rintro e w2 ⟨S2,q2,z2,rfl,i2,m2,s2⟩
 have hX0n : Hid (Bx gt S2 w2 _ _):=hX0.out.stp s2
 have hX1n : Hid (Bx gt S2 w2 _ _):=hX1.out.stp s2
 have ht2 : Hid (SB w.heap.size S w S2 w2):=ht1.out.step s2
 clear hX0 hX1 ht1
 have hX0 : Hid (Bx gt S2 w2 _ _):=hX0n
 have hX1 : Hid (Bx gt S2 w2 _ _):=hX1n
 clear hX0n hX1n
 have hm2 : Hid (Mem (Cx.mk ts fin false) gt cap base S2 q2 w2):=m2
 have hi2 : Hid (Is _ q2 z2):=i2
 clear i2 m2 s2 hm1
 clear a0 a1 a2 a3 a4 a5 a6 a7 a8 a9 a10 a11 af
 obtain ⟨b0,b1,b2,b3,b4,b5,b6,b7,b8,b9,b10,b11,bf⟩:=hX1.out.box
 unfold pv
 go_wp2
 refine bodyPost_ret (results_cell_row rfl _ _ (w.heap.size + 1) 81 _ (0,0) _ rfl ((hX1.out.put _ _ _ _ _ _ _ _ _ _ _ _)).heap Tryz.underlying81 rfl (by kernel_rfl)) rfl ?_
 rw [HV.out]
 exact zw rfl hi2.out (hm2.out.put hX1.out _ _ _ _ _ _ _ _ _ _ _ _) (ht2.out.put (by omega) _ _ _ _ _ _ _ _ _ _ _ _)
set_option maxRecDepth 100000 in
set_option maxHeartbeats 6400000 in
theorem znb (ts : List Tk) (fin : Nat) (gt cap base : Nat) (S : Sv) (q : PS) (w : World) (hm : Mem (Cx.mk ts fin false) gt cap base S q w) (h0 : isT (Cx.mk ts fin false) q.pos 1 zbn = false) (h1 : isT (Cx.mk ts fin false) q.pos 1 zbk = true) :
  Calls Tryz.prog 46 #[pv (Cx.mk ts fin false) gt cap S q (-1) 0] w (Out (Cx.mk ts fin false) gt cap base (zbd (Cx.mk ts fin false) q) 0 S w):=by
 have HM : Hid (Mem (Cx.mk ts fin false) gt cap base S q w):=hm
 have htok:=hm.tok
 have hfew : (Cx.mk ts fin false).ts.length ≤ 4000:=hm.few
 clear hm
 have HV : Hid (zbd (Cx.mk ts fin false) q = zbi (Cx.mk ts fin false) q):=by show zbd (Cx.mk ts fin false) q = _; rw [zbd,h0,h1]; rfl
 unfold pv
 go_enter Tryz.func46,Tryz.ntmps46
 go_wp2_with fail
 refine (zf (Cx.mk ts fin false) gt cap base S q (-1) 0 1 zbn _ (zg (zg htok _) _) hfew (by decide)).mono ?_
 rintro e w1 ⟨rfl,hb1⟩
 rw [h0]
 obtain ⟨X0,X1,m1,t1⟩:=HM.out.two hb1
 have hX0 : Hid (Bx gt S w1 _ _):=X0
 have hX1 : Hid (Bx gt S w1 _ _):=X1
 have hm1 : Hid (Mem (Cx.mk ts fin false) gt cap base S q w1):=m1
 have ht1 : Hid (SB w.heap.size S w S w1):=t1
 clear X0 X1 m1 t1 hb1
 clear htok
 obtain ⟨a0,a1,a2,a3,a4,a5,a6,a7,a8,a9,a10,a11,af⟩:=hX0.out.box
 go_wp2_with fail
 refine (zf (Cx.mk ts fin false) gt cap base S q (-1) 0 1 zbk _ hm1.out.tok hfew (by decide)).mono ?_
 rintro e w2 ⟨rfl,hb2⟩
 rw [h1]
 have hX0n : Hid (Bx gt S w2 _ _):=hX0.out.below hb2
 have hX1n : Hid (Bx gt S w2 _ _):=hX1.out.below hb2
 have ht2 : Hid (SB w.heap.size S w S w2):=ht1.out.below hb2
 have hm2 : Hid (Mem (Cx.mk ts fin false) gt cap base S q w2):=hm1.out.later hb2
 clear hb2 hX0 hX1 ht1 hm1
 have hX0 : Hid (Bx gt S w2 _ _):=hX0n
 have hX1 : Hid (Bx gt S w2 _ _):=hX1n
 clear hX0n hX1n
 clear a0 a1 a2 a3 a4 a5 a6 a7 a8 a9 a10 a11 af
 obtain ⟨a0,a1,a2,a3,a4,a5,a6,a7,a8,a9,a10,a11,af⟩:=hX0.out.box
 go_wp2_with fail
 refine (zuk (Cx.mk ts fin false) gt cap base S q _ hm2.out h1).mono ?_
 rintro e w3 ⟨S3,q3,z3,rfl,i3,m3,s3⟩
 have hX0n : Hid (Bx gt S3 w3 _ _):=hX0.out.stp s3
 have hX1n : Hid (Bx gt S3 w3 _ _):=hX1.out.stp s3
 have ht3 : Hid (SB w.heap.size S w S3 w3):=ht2.out.step s3
 clear hX0 hX1 ht2
 have hX0 : Hid (Bx gt S3 w3 _ _):=hX0n
 have hX1 : Hid (Bx gt S3 w3 _ _):=hX1n
 clear hX0n hX1n
 have hm3 : Hid (Mem (Cx.mk ts fin false) gt cap base S3 q3 w3):=m3
 have hi3 : Hid (Is _ q3 z3):=i3
 clear i3 m3 s3 hm2
 clear a0 a1 a2 a3 a4 a5 a6 a7 a8 a9 a10 a11 af
 obtain ⟨b0,b1,b2,b3,b4,b5,b6,b7,b8,b9,b10,b11,bf⟩:=hX1.out.box
 unfold pv
 go_wp2
 refine bodyPost_ret (results_cell_row rfl _ _ (w.heap.size + 1) 81 _ (0,0) _ rfl ((hX1.out.put _ _ _ _ _ _ _ _ _ _ _ _)).heap Tryz.underlying81 rfl (by kernel_rfl)) rfl ?_
 rw [HV.out]
 exact zw rfl hi3.out (hm3.out.put hX1.out _ _ _ _ _ _ _ _ _ _ _ _) (ht3.out.put (by omega) _ _ _ _ _ _ _ _ _ _ _ _)
set_option maxRecDepth 100000 in
set_option maxHeartbeats 6400000 in
theorem zpf (ts : List Tk) (fin : Nat) (gt cap base : Nat) (S : Sv) (q : PS) (w : World) (hm : Mem (Cx.mk ts fin false) gt cap base S q w) (h0 : isT (Cx.mk ts fin false) q.pos 1 zbn = false) (h1 : isT (Cx.mk ts fin false) q.pos 1 zbk = false) (h2 : isT (Cx.mk ts fin false) q.pos 1 sLet = true) :
  Calls Tryz.prog 46 #[pv (Cx.mk ts fin false) gt cap S q (-1) 0] w (Out (Cx.mk ts fin false) gt cap base (zbd (Cx.mk ts fin false) q) 0 S w):=by
 have HM : Hid (Mem (Cx.mk ts fin false) gt cap base S q w):=hm
 have htok:=hm.tok
 have hfew : (Cx.mk ts fin false).ts.length ≤ 4000:=hm.few
 clear hm
 have HV : Hid (zbd (Cx.mk ts fin false) q = fstP (letP (Cx.mk ts fin false) q)):=by show zbd (Cx.mk ts fin false) q = _; rw [zbd,h0,h1,h2]; rfl
 unfold pv
 go_enter Tryz.func46,Tryz.ntmps46
 go_wp2_with fail
 refine (zf (Cx.mk ts fin false) gt cap base S q (-1) 0 1 zbn _ (zg (zg htok _) _) hfew (by decide)).mono ?_
 rintro e w1 ⟨rfl,hb1⟩
 rw [h0]
 obtain ⟨X0,X1,m1,t1⟩:=HM.out.two hb1
 have hX0 : Hid (Bx gt S w1 _ _):=X0
 have hX1 : Hid (Bx gt S w1 _ _):=X1
 have hm1 : Hid (Mem (Cx.mk ts fin false) gt cap base S q w1):=m1
 have ht1 : Hid (SB w.heap.size S w S w1):=t1
 clear X0 X1 m1 t1 hb1
 clear htok
 obtain ⟨a0,a1,a2,a3,a4,a5,a6,a7,a8,a9,a10,a11,af⟩:=hX0.out.box
 go_wp2_with fail
 refine (zf (Cx.mk ts fin false) gt cap base S q (-1) 0 1 zbk _ hm1.out.tok hfew (by decide)).mono ?_
 rintro e w2 ⟨rfl,hb2⟩
 rw [h1]
 have hX0n : Hid (Bx gt S w2 _ _):=hX0.out.below hb2
 have hX1n : Hid (Bx gt S w2 _ _):=hX1.out.below hb2
 have ht2 : Hid (SB w.heap.size S w S w2):=ht1.out.below hb2
 have hm2 : Hid (Mem (Cx.mk ts fin false) gt cap base S q w2):=hm1.out.later hb2
 clear hb2 hX0 hX1 ht1 hm1
 have hX0 : Hid (Bx gt S w2 _ _):=hX0n
 have hX1 : Hid (Bx gt S w2 _ _):=hX1n
 clear hX0n hX1n
 clear a0 a1 a2 a3 a4 a5 a6 a7 a8 a9 a10 a11 af
 obtain ⟨a0,a1,a2,a3,a4,a5,a6,a7,a8,a9,a10,a11,af⟩:=hX0.out.box
 go_wp2_with fail
 refine (zf (Cx.mk ts fin false) gt cap base S q (-1) 0 1 sLet _ hm2.out.tok hfew (by decide)).mono ?_
 rintro e w3 ⟨rfl,hb3⟩
 rw [h2]
 have hX0n : Hid (Bx gt S w3 _ _):=hX0.out.below hb3
 have hX1n : Hid (Bx gt S w3 _ _):=hX1.out.below hb3
 have ht3 : Hid (SB w.heap.size S w S w3):=ht2.out.below hb3
 have hm3 : Hid (Mem (Cx.mk ts fin false) gt cap base S q w3):=hm2.out.later hb3
 clear hb3 hX0 hX1 ht2 hm2
 have hX0 : Hid (Bx gt S w3 _ _):=hX0n
 have hX1 : Hid (Bx gt S w3 _ _):=hX1n
 clear hX0n hX1n
 clear a0 a1 a2 a3 a4 a5 a6 a7 a8 a9 a10 a11 af
 obtain ⟨a0,a1,a2,a3,a4,a5,a6,a7,a8,a9,a10,a11,af⟩:=hX0.out.box
 go_wp2_with fail
 refine (zmz (Cx.mk ts fin false) gt cap base S q _ hm3.out).mono ?_
 rintro e w4 ⟨S4,q4,z4,n4,rfl,i4,m4,s4⟩
 have hX0n : Hid (Bx gt S4 w4 _ _):=hX0.out.stp s4
 have hX1n : Hid (Bx gt S4 w4 _ _):=hX1.out.stp s4
 have ht4 : Hid (SB w.heap.size S w S4 w4):=ht3.out.step s4
 clear hX0 hX1 ht3
 have hX0 : Hid (Bx gt S4 w4 _ _):=hX0n
 have hX1 : Hid (Bx gt S4 w4 _ _):=hX1n
 clear hX0n hX1n
 have hm4 : Hid (Mem (Cx.mk ts fin false) gt cap base S4 q4 w4):=m4
 have hi4 : Hid (Is2 _ q4 z4 n4):=i4
 clear i4 m4 s4 hm3
 clear a0 a1 a2 a3 a4 a5 a6 a7 a8 a9 a10 a11 af
 have hlt2 : w.heap.size + 1 < w4.heap.size:=hX1.out.lt
 unfold pv
 go_upto_region 7 with fail
 refine zm (R:=fun W => Bx gt S4 W (w.heap.size) _ ∧ Bx gt S4 W (w.heap.size + 1) _ ∧ Bx gt S4 W (w4.heap.size) _ ∧ Mem (Cx.mk ts fin false) gt cap base S4 q4 W ∧ SB w.heap.size S w S4 W) ⟨(hX0.out.alloc _),(hX1.out.alloc _),(Bx.new hm4.out _),(hm4.out.alloc _),(ht4.out.alloc _)⟩ ?_
 clear hX0 hX1 ht4 hm4
 rintro w5 ⟨X0,X1,X2,m5,t5⟩
 have hX0 : Hid (Bx gt S4 w5 _ _):=X0
 have hX1 : Hid (Bx gt S4 w5 _ _):=X1
 have hX2 : Hid (Bx gt S4 w5 _ _):=X2
 have hm5 : Hid (Mem (Cx.mk ts fin false) gt cap base S4 q4 w5):=m5
 have ht5 : Hid (SB w.heap.size S w S4 w5):=t5
 clear m5 t5 X0 X1 X2
 obtain ⟨b0,b1,b2,b3,b4,b5,b6,b7,b8,b9,b10,b11,bf⟩:=hX1.out.box
 obtain ⟨c0,c1,c2,c3,c4,c5,c6,c7,c8,c9,c10,c11,cf⟩:=hX2.out.box
 go_wp2
 refine bodyPost_ret (results_cell_row rfl _ _ (w.heap.size + 1) 81 _ (0,0) _ rfl ((hX1.out.put _ _ _ _ _ _ _ _ _ _ _ _)).heap Tryz.underlying81 rfl (by kernel_rfl)) rfl ?_
 rw [HV.out]
 exact zw rfl hi4.out.fst (hm5.out.put hX1.out _ _ _ _ _ _ _ _ _ _ _ _) (ht5.out.put (by omega) _ _ _ _ _ _ _ _ _ _ _ _)
set_option maxRecDepth 100000 in
set_option maxHeartbeats 6400000 in
theorem zlm (ts : List Tk) (fin : Nat) (gt cap base : Nat) (S : Sv) (q : PS) (w : World) (hm : Mem (Cx.mk ts fin false) gt cap base S q w) (h0 : isT (Cx.mk ts fin false) q.pos 1 zbn = false) (h1 : isT (Cx.mk ts fin false) q.pos 1 zbk = false) (h2 : isT (Cx.mk ts fin false) q.pos 1 sLet = false) (h3 : isT (Cx.mk ts fin false) q.pos 1 zq = true) :
  Calls Tryz.prog 46 #[pv (Cx.mk ts fin false) gt cap S q (-1) 0] w (Out (Cx.mk ts fin false) gt cap base (zbd (Cx.mk ts fin false) q) 0 S w):=by
 have HM : Hid (Mem (Cx.mk ts fin false) gt cap base S q w):=hm
 have htok:=hm.tok
 have hfew : (Cx.mk ts fin false).ts.length ≤ 4000:=hm.few
 clear hm
 have HV : Hid (zbd (Cx.mk ts fin false) q = fstP (fnP (Cx.mk ts fin false) q)):=by show zbd (Cx.mk ts fin false) q = _; rw [zbd,h0,h1,h2,h3]; rfl
 unfold pv
 go_enter Tryz.func46,Tryz.ntmps46
 go_wp2_with fail
 refine (zf (Cx.mk ts fin false) gt cap base S q (-1) 0 1 zbn _ (zg (zg htok _) _) hfew (by decide)).mono ?_
 rintro e w1 ⟨rfl,hb1⟩
 rw [h0]
 obtain ⟨X0,X1,m1,t1⟩:=HM.out.two hb1
 have hX0 : Hid (Bx gt S w1 _ _):=X0
 have hX1 : Hid (Bx gt S w1 _ _):=X1
 have hm1 : Hid (Mem (Cx.mk ts fin false) gt cap base S q w1):=m1
 have ht1 : Hid (SB w.heap.size S w S w1):=t1
 clear X0 X1 m1 t1 hb1
 clear htok
 obtain ⟨a0,a1,a2,a3,a4,a5,a6,a7,a8,a9,a10,a11,af⟩:=hX0.out.box
 go_wp2_with fail
 refine (zf (Cx.mk ts fin false) gt cap base S q (-1) 0 1 zbk _ hm1.out.tok hfew (by decide)).mono ?_
 rintro e w2 ⟨rfl,hb2⟩
 rw [h1]
 have hX0n : Hid (Bx gt S w2 _ _):=hX0.out.below hb2
 have hX1n : Hid (Bx gt S w2 _ _):=hX1.out.below hb2
 have ht2 : Hid (SB w.heap.size S w S w2):=ht1.out.below hb2
 have hm2 : Hid (Mem (Cx.mk ts fin false) gt cap base S q w2):=hm1.out.later hb2
 clear hb2 hX0 hX1 ht1 hm1
 have hX0 : Hid (Bx gt S w2 _ _):=hX0n
 have hX1 : Hid (Bx gt S w2 _ _):=hX1n
 clear hX0n hX1n
 clear a0 a1 a2 a3 a4 a5 a6 a7 a8 a9 a10 a11 af
 obtain ⟨a0,a1,a2,a3,a4,a5,a6,a7,a8,a9,a10,a11,af⟩:=hX0.out.box
 go_wp2_with fail
 refine (zf (Cx.mk ts fin false) gt cap base S q (-1) 0 1 sLet _ hm2.out.tok hfew (by decide)).mono ?_
 rintro e w3 ⟨rfl,hb3⟩
 rw [h2]
 have hX0n : Hid (Bx gt S w3 _ _):=hX0.out.below hb3
 have hX1n : Hid (Bx gt S w3 _ _):=hX1.out.below hb3
 have ht3 : Hid (SB w.heap.size S w S w3):=ht2.out.below hb3
 have hm3 : Hid (Mem (Cx.mk ts fin false) gt cap base S q w3):=hm2.out.later hb3
 clear hb3 hX0 hX1 ht2 hm2
 have hX0 : Hid (Bx gt S w3 _ _):=hX0n
 have hX1 : Hid (Bx gt S w3 _ _):=hX1n
 clear hX0n hX1n
 clear a0 a1 a2 a3 a4 a5 a6 a7 a8 a9 a10 a11 af
 obtain ⟨a0,a1,a2,a3,a4,a5,a6,a7,a8,a9,a10,a11,af⟩:=hX0.out.box
 go_wp2_with fail
 refine (zf (Cx.mk ts fin false) gt cap base S q (-1) 0 1 zq _ hm3.out.tok hfew (by decide)).mono ?_
 rintro e w4 ⟨rfl,hb4⟩
 rw [h3]
 have hX0n : Hid (Bx gt S w4 _ _):=hX0.out.below hb4
 have hX1n : Hid (Bx gt S w4 _ _):=hX1.out.below hb4
 have ht4 : Hid (SB w.heap.size S w S w4):=ht3.out.below hb4
 have hm4 : Hid (Mem (Cx.mk ts fin false) gt cap base S q w4):=hm3.out.later hb4
 clear hb4 hX0 hX1 ht3 hm3
 have hX0 : Hid (Bx gt S w4 _ _):=hX0n
 have hX1 : Hid (Bx gt S w4 _ _):=hX1n
 clear hX0n hX1n
 clear a0 a1 a2 a3 a4 a5 a6 a7 a8 a9 a10 a11 af
 obtain ⟨a0,a1,a2,a3,a4,a5,a6,a7,a8,a9,a10,a11,af⟩:=hX0.out.box
 go_wp2_with fail
 refine (zof (Cx.mk ts fin false) gt cap base S q _ hm4.out).mono ?_
 rintro e w5 ⟨S5,q5,z5,n5,rfl,i5,m5,s5⟩
 have hX0n : Hid (Bx gt S5 w5 _ _):=hX0.out.stp s5
 have hX1n : Hid (Bx gt S5 w5 _ _):=hX1.out.stp s5
 have ht5 : Hid (SB w.heap.size S w S5 w5):=ht4.out.step s5
 clear hX0 hX1 ht4
 have hX0 : Hid (Bx gt S5 w5 _ _):=hX0n
 have hX1 : Hid (Bx gt S5 w5 _ _):=hX1n
 clear hX0n hX1n
 have hm5 : Hid (Mem (Cx.mk ts fin false) gt cap base S5 q5 w5):=m5
 have hi5 : Hid (Is2 _ q5 z5 n5):=i5
 clear i5 m5 s5 hm4
 clear a0 a1 a2 a3 a4 a5 a6 a7 a8 a9 a10 a11 af
 have hlt2 : w.heap.size + 1 < w5.heap.size:=hX1.out.lt
 unfold pv
 go_upto_region 10 with fail
 refine zm (R:=fun W => Bx gt S5 W (w.heap.size) _ ∧ Bx gt S5 W (w.heap.size + 1) _ ∧ Bx gt S5 W (w5.heap.size) _ ∧ Mem (Cx.mk ts fin false) gt cap base S5 q5 W ∧ SB w.heap.size S w S5 W) ⟨(hX0.out.alloc _),(hX1.out.alloc _),(Bx.new hm5.out _),(hm5.out.alloc _),(ht5.out.alloc _)⟩ ?_
 clear hX0 hX1 ht5 hm5
 rintro w6 ⟨X0,X1,X2,m6,t6⟩
 have hX0 : Hid (Bx gt S5 w6 _ _):=X0
 have hX1 : Hid (Bx gt S5 w6 _ _):=X1
 have hX2 : Hid (Bx gt S5 w6 _ _):=X2
 have hm6 : Hid (Mem (Cx.mk ts fin false) gt cap base S5 q5 w6):=m6
 have ht6 : Hid (SB w.heap.size S w S5 w6):=t6
 clear m6 t6 X0 X1 X2
 obtain ⟨b0,b1,b2,b3,b4,b5,b6,b7,b8,b9,b10,b11,bf⟩:=hX1.out.box
 obtain ⟨c0,c1,c2,c3,c4,c5,c6,c7,c8,c9,c10,c11,cf⟩:=hX2.out.box
 go_wp2
 refine bodyPost_ret (results_cell_row rfl _ _ (w.heap.size + 1) 81 _ (0,0) _ rfl ((hX1.out.put _ _ _ _ _ _ _ _ _ _ _ _)).heap Tryz.underlying81 rfl (by kernel_rfl)) rfl ?_
 rw [HV.out]
 exact zw rfl hi5.out.fst (hm6.out.put hX1.out _ _ _ _ _ _ _ _ _ _ _ _) (ht6.out.put (by omega) _ _ _ _ _ _ _ _ _ _ _ _)
set_option maxRecDepth 100000 in
set_option maxHeartbeats 6400000 in
theorem znk (ts : List Tk) (fin : Nat) (gt cap base : Nat) (S : Sv) (q : PS) (w : World) (hm : Mem (Cx.mk ts fin false) gt cap base S q w) (h0 : isT (Cx.mk ts fin false) q.pos 1 zbn = false) (h1 : isT (Cx.mk ts fin false) q.pos 1 zbk = false) (h2 : isT (Cx.mk ts fin false) q.pos 1 sLet = false) (h3 : isT (Cx.mk ts fin false) q.pos 1 zq = false) (h4 : isT (Cx.mk ts fin false) q.pos 1 zcc = true) :
  Calls Tryz.prog 46 #[pv (Cx.mk ts fin false) gt cap S q (-1) 0] w (Out (Cx.mk ts fin false) gt cap base (zbd (Cx.mk ts fin false) q) 0 S w):=by
 have HM : Hid (Mem (Cx.mk ts fin false) gt cap base S q w):=hm
 have htok:=hm.tok
 have hfew : (Cx.mk ts fin false).ts.length ≤ 4000:=hm.few
 clear hm
 have HV : Hid (zbd (Cx.mk ts fin false) q = bd (bd (bd (bd (bd (bd (.ok q) (tokP (Cx.mk ts fin false) 1 zcc)) (tokP (Cx.mk ts fin false) 4 zr)) (pE (Cx.mk ts fin false) .sum 0)) (tokP (Cx.mk ts fin false) 4 zcw)) (tokP (Cx.mk ts fin false) 4 cSemi)) (zbz (Cx.mk ts fin false) 4 sNone)):=by show zbd (Cx.mk ts fin false) q = _; rw [zbd,h0,h1,h2,h3,h4]; rfl
 unfold pv
 go_enter Tryz.func46,Tryz.ntmps46
 go_wp2_with fail
 refine (zf (Cx.mk ts fin false) gt cap base S q (-1) 0 1 zbn _ (zg (zg htok _) _) hfew (by decide)).mono ?_
 rintro e w1 ⟨rfl,hb1⟩
 rw [h0]
 obtain ⟨X0,X1,m1,t1⟩:=HM.out.two hb1
 have hX0 : Hid (Bx gt S w1 _ _):=X0
 have hX1 : Hid (Bx gt S w1 _ _):=X1
 have hm1 : Hid (Mem (Cx.mk ts fin false) gt cap base S q w1):=m1
 have ht1 : Hid (SB w.heap.size S w S w1):=t1
 clear X0 X1 m1 t1 hb1
 clear htok
 obtain ⟨a0,a1,a2,a3,a4,a5,a6,a7,a8,a9,a10,a11,af⟩:=hX0.out.box
 go_wp2_with fail
 refine (zf (Cx.mk ts fin false) gt cap base S q (-1) 0 1 zbk _ hm1.out.tok hfew (by decide)).mono ?_
 rintro e w2 ⟨rfl,hb2⟩
 rw [h1]
 have hX0n : Hid (Bx gt S w2 _ _):=hX0.out.below hb2
 have hX1n : Hid (Bx gt S w2 _ _):=hX1.out.below hb2
 have ht2 : Hid (SB w.heap.size S w S w2):=ht1.out.below hb2
 have hm2 : Hid (Mem (Cx.mk ts fin false) gt cap base S q w2):=hm1.out.later hb2
 clear hb2 hX0 hX1 ht1 hm1
 have hX0 : Hid (Bx gt S w2 _ _):=hX0n
 have hX1 : Hid (Bx gt S w2 _ _):=hX1n
 clear hX0n hX1n
 clear a0 a1 a2 a3 a4 a5 a6 a7 a8 a9 a10 a11 af
 obtain ⟨a0,a1,a2,a3,a4,a5,a6,a7,a8,a9,a10,a11,af⟩:=hX0.out.box
 go_wp2_with fail
 refine (zf (Cx.mk ts fin false) gt cap base S q (-1) 0 1 sLet _ hm2.out.tok hfew (by decide)).mono ?_
 rintro e w3 ⟨rfl,hb3⟩
 rw [h2]
 have hX0n : Hid (Bx gt S w3 _ _):=hX0.out.below hb3
 have hX1n : Hid (Bx gt S w3 _ _):=hX1.out.below hb3
 have ht3 : Hid (SB w.heap.size S w S w3):=ht2.out.below hb3
 have hm3 : Hid (Mem (Cx.mk ts fin false) gt cap base S q w3):=hm2.out.later hb3
 clear hb3 hX0 hX1 ht2 hm2
 have hX0 : Hid (Bx gt S w3 _ _):=hX0n
 have hX1 : Hid (Bx gt S w3 _ _):=hX1n
 clear hX0n hX1n
 clear a0 a1 a2 a3 a4 a5 a6 a7 a8 a9 a10 a11 af
 obtain ⟨a0,a1,a2,a3,a4,a5,a6,a7,a8,a9,a10,a11,af⟩:=hX0.out.box
 go_wp2_with fail
 refine (zf (Cx.mk ts fin false) gt cap base S q (-1) 0 1 zq _ hm3.out.tok hfew (by decide)).mono ?_
 rintro e w4 ⟨rfl,hb4⟩
 rw [h3]
 have hX0n : Hid (Bx gt S w4 _ _):=hX0.out.below hb4
 have hX1n : Hid (Bx gt S w4 _ _):=hX1.out.below hb4
 have ht4 : Hid (SB w.heap.size S w S w4):=ht3.out.below hb4
 have hm4 : Hid (Mem (Cx.mk ts fin false) gt cap base S q w4):=hm3.out.later hb4
 clear hb4 hX0 hX1 ht3 hm3
 have hX0 : Hid (Bx gt S w4 _ _):=hX0n
 have hX1 : Hid (Bx gt S w4 _ _):=hX1n
 clear hX0n hX1n
 clear a0 a1 a2 a3 a4 a5 a6 a7 a8 a9 a10 a11 af
 obtain ⟨a0,a1,a2,a3,a4,a5,a6,a7,a8,a9,a10,a11,af⟩:=hX0.out.box
 go_wp2_with fail
 refine (zf (Cx.mk ts fin false) gt cap base S q (-1) 0 1 zcc _ hm4.out.tok hfew (by decide)).mono ?_
 rintro e w5 ⟨rfl,hb5⟩
 rw [h4]
 have hX0n : Hid (Bx gt S w5 _ _):=hX0.out.below hb5
 have hX1n : Hid (Bx gt S w5 _ _):=hX1.out.below hb5
 have ht5 : Hid (SB w.heap.size S w S w5):=ht4.out.below hb5
 have hm5 : Hid (Mem (Cx.mk ts fin false) gt cap base S q w5):=hm4.out.later hb5
 clear hb5 hX0 hX1 ht4 hm4
 have hX0 : Hid (Bx gt S w5 _ _):=hX0n
 have hX1 : Hid (Bx gt S w5 _ _):=hX1n
 clear hX0n hX1n
 clear a0 a1 a2 a3 a4 a5 a6 a7 a8 a9 a10 a11 af
 obtain ⟨a0,a1,a2,a3,a4,a5,a6,a7,a8,a9,a10,a11,af⟩:=hX0.out.box
 go_wp2_with fail
 refine (zbf (Cx.mk ts fin false) gt cap base (.ok q) S q (-1) 0 zcc _ (zbv q) hm5.out).mono ?_
 rintro e w6 ⟨S6,q6,z6,rfl,i6,m6,s6⟩
 have hX0n : Hid (Bx gt S6 w6 _ _):=hX0.out.stp s6
 have hX1n : Hid (Bx gt S6 w6 _ _):=hX1.out.stp s6
 have ht6 : Hid (SB w.heap.size S w S6 w6):=ht5.out.step s6
 clear hX0 hX1 ht5
 have hX0 : Hid (Bx gt S6 w6 _ _):=hX0n
 have hX1 : Hid (Bx gt S6 w6 _ _):=hX1n
 clear hX0n hX1n
 have hm6 : Hid (Mem (Cx.mk ts fin false) gt cap base S6 q6 w6):=m6
 have hi6 : Hid (Is _ q6 z6):=i6
 clear i6 m6 s6 hm5
 clear a0 a1 a2 a3 a4 a5 a6 a7 a8 a9 a10 a11 af
 go_wp2_with fail
 refine (zp (Cx.mk ts fin false) gt cap base _ S6 q6 z6 0 zr _ hi6.out hm6.out).mono ?_
 rintro e w7 ⟨S7,q7,z7,rfl,i7,m7,s7⟩
 have hX0n : Hid (Bx gt S7 w7 _ _):=hX0.out.stp s7
 have hX1n : Hid (Bx gt S7 w7 _ _):=hX1.out.stp s7
 have ht7 : Hid (SB w.heap.size S w S7 w7):=ht6.out.step s7
 clear hX0 hX1 ht6
 have hX0 : Hid (Bx gt S7 w7 _ _):=hX0n
 have hX1 : Hid (Bx gt S7 w7 _ _):=hX1n
 clear hX0n hX1n
 have hm7 : Hid (Mem (Cx.mk ts fin false) gt cap base S7 q7 w7):=m7
 have hi7 : Hid (Is _ q7 z7):=i7
 clear i7 m7 s7 hm6
 go_wp2_with fail
 refine (zet (Cx.mk ts fin false) gt cap base _ S7 q7 z7 _ hi7.out hm7.out).mono ?_
 rintro e w8 ⟨S8,q8,z8,rfl,i8,m8,s8⟩
 have hX0n : Hid (Bx gt S8 w8 _ _):=hX0.out.stp s8
 have hX1n : Hid (Bx gt S8 w8 _ _):=hX1.out.stp s8
 have ht8 : Hid (SB w.heap.size S w S8 w8):=ht7.out.step s8
 clear hX0 hX1 ht7
 have hX0 : Hid (Bx gt S8 w8 _ _):=hX0n
 have hX1 : Hid (Bx gt S8 w8 _ _):=hX1n
 clear hX0n hX1n
 have hm8 : Hid (Mem (Cx.mk ts fin false) gt cap base S8 q8 w8):=m8
 have hi8 : Hid (Is _ q8 z8):=i8
 clear i8 m8 s8 hm7
 go_wp2_with fail
 refine (zp (Cx.mk ts fin false) gt cap base _ S8 q8 z8 0 zcw _ hi8.out hm8.out).mono ?_
 rintro e w9 ⟨S9,q9,z9,rfl,i9,m9,s9⟩
 have hX0n : Hid (Bx gt S9 w9 _ _):=hX0.out.stp s9
 have hX1n : Hid (Bx gt S9 w9 _ _):=hX1.out.stp s9
 have ht9 : Hid (SB w.heap.size S w S9 w9):=ht8.out.step s9
 clear hX0 hX1 ht8
 have hX0 : Hid (Bx gt S9 w9 _ _):=hX0n
 have hX1 : Hid (Bx gt S9 w9 _ _):=hX1n
 clear hX0n hX1n
 have hm9 : Hid (Mem (Cx.mk ts fin false) gt cap base S9 q9 w9):=m9
 have hi9 : Hid (Is _ q9 z9):=i9
 clear i9 m9 s9 hm8
 have hlt2 : w.heap.size + 1 < w9.heap.size:=hX1.out.lt
 unfold pv
 go_upto_region 13 with fail
 refine zm (R:=fun W => Bx gt S9 W (w.heap.size) _ ∧ Bx gt S9 W (w.heap.size + 1) _ ∧ Bx gt S9 W (w9.heap.size) _ ∧ Mem (Cx.mk ts fin false) gt cap base S9 q9 W ∧ SB w.heap.size S w S9 W) ⟨(hX0.out.alloc _),(hX1.out.alloc _),(Bx.new hm9.out _),(hm9.out.alloc _),(ht9.out.alloc _)⟩ ?_
 clear hX0 hX1 ht9 hm9
 rintro w10 ⟨X0,X1,X2,m10,t10⟩
 have hX0 : Hid (Bx gt S9 w10 _ _):=X0
 have hX1 : Hid (Bx gt S9 w10 _ _):=X1
 have hX2 : Hid (Bx gt S9 w10 _ _):=X2
 have hm10 : Hid (Mem (Cx.mk ts fin false) gt cap base S9 q9 w10):=m10
 have ht10 : Hid (SB w.heap.size S w S9 w10):=t10
 clear m10 t10 X0 X1 X2
 obtain ⟨c0,c1,c2,c3,c4,c5,c6,c7,c8,c9,c10,c11,cf⟩:=hX2.out.box
 go_wp2_with fail
 refine (zp (Cx.mk ts fin false) gt cap base _ S9 q9 z9 0 cSemi _ hi9.out hm10.out).mono ?_
 rintro e w11 ⟨S11,q11,z11,rfl,i11,m11,s11⟩
 have hX0n : Hid (Bx gt S11 w11 _ _):=hX0.out.stp s11
 have hX1n : Hid (Bx gt S11 w11 _ _):=hX1.out.stp s11
 have hX2n : Hid (Bx gt S11 w11 _ _):=hX2.out.stp s11
 have ht11 : Hid (SB w.heap.size S w S11 w11):=ht10.out.step s11
 clear hX0 hX1 hX2 ht10
 have hX0 : Hid (Bx gt S11 w11 _ _):=hX0n
 have hX1 : Hid (Bx gt S11 w11 _ _):=hX1n
 have hX2 : Hid (Bx gt S11 w11 _ _):=hX2n
 clear hX0n hX1n hX2n
 have hm11 : Hid (Mem (Cx.mk ts fin false) gt cap base S11 q11 w11):=m11
 have hi11 : Hid (Is _ q11 z11):=i11
 clear i11 m11 s11 hm10
 clear c0 c1 c2 c3 c4 c5 c6 c7 c8 c9 c10 c11 cf
 go_wp2_with fail
 refine (zdy (Cx.mk ts fin false) gt cap base _ S11 q11 z11 0 4 sNone _ hi11.out hm11.out (zde hi11.out)).mono ?_
 rintro e w12 ⟨S12,q12,z12,rfl,i12,m12,s12⟩
 have hX0n : Hid (Bx gt S12 w12 _ _):=hX0.out.stp s12
 have hX1n : Hid (Bx gt S12 w12 _ _):=hX1.out.stp s12
 have hX2n : Hid (Bx gt S12 w12 _ _):=hX2.out.stp s12
 have ht12 : Hid (SB w.heap.size S w S12 w12):=ht11.out.step s12
 clear hX0 hX1 hX2 ht11
 have hX0 : Hid (Bx gt S12 w12 _ _):=hX0n
 have hX1 : Hid (Bx gt S12 w12 _ _):=hX1n
 have hX2 : Hid (Bx gt S12 w12 _ _):=hX2n
 clear hX0n hX1n hX2n
 have hm12 : Hid (Mem (Cx.mk ts fin false) gt cap base S12 q12 w12):=m12
 have hi12 : Hid (Is _ q12 z12):=i12
 clear i12 m12 s12 hm11
 obtain ⟨b0,b1,b2,b3,b4,b5,b6,b7,b8,b9,b10,b11,bf⟩:=hX1.out.box
 unfold pv
 go_wp2
 refine bodyPost_ret (results_cell_row rfl _ _ (w.heap.size + 1) 81 _ (0,0) _ rfl ((hX1.out.put _ _ _ _ _ _ _ _ _ _ _ _)).heap Tryz.underlying81 rfl (by kernel_rfl)) rfl ?_
 rw [HV.out]
 exact zw rfl hi12.out (hm12.out.put hX1.out _ _ _ _ _ _ _ _ _ _ _ _) (ht12.out.put (by omega) _ _ _ _ _ _ _ _ _ _ _ _)
set_option maxRecDepth 100000 in
set_option maxHeartbeats 6400000 in
theorem znl (ts : List Tk) (fin : Nat) (gt cap base : Nat) (S : Sv) (q : PS) (w : World) (hm : Mem (Cx.mk ts fin false) gt cap base S q w) (h0 : isT (Cx.mk ts fin false) q.pos 1 zbn = false) (h1 : isT (Cx.mk ts fin false) q.pos 1 zbk = false) (h2 : isT (Cx.mk ts fin false) q.pos 1 sLet = false) (h3 : isT (Cx.mk ts fin false) q.pos 1 zq = false) (h4 : isT (Cx.mk ts fin false) q.pos 1 zcc = false) (h5 : isT (Cx.mk ts fin false) q.pos 1 zck = true) :
  Calls Tryz.prog 46 #[pv (Cx.mk ts fin false) gt cap S q (-1) 0] w (Out (Cx.mk ts fin false) gt cap base (zbd (Cx.mk ts fin false) q) 0 S w):=by
 have HM : Hid (Mem (Cx.mk ts fin false) gt cap base S q w):=hm
 have htok:=hm.tok
 have hfew : (Cx.mk ts fin false).ts.length ≤ 4000:=hm.few
 clear hm
 have HV : Hid (zbd (Cx.mk ts fin false) q = bd (bd (bd (bd (.ok q) (tokP (Cx.mk ts fin false) 1 zck)) (pE (Cx.mk ts fin false) .sum 0)) (tokP (Cx.mk ts fin false) 4 cSemi)) (zbz (Cx.mk ts fin false) 5 sNone)):=by show zbd (Cx.mk ts fin false) q = _; rw [zbd,h0,h1,h2,h3,h4,h5]; rfl
 unfold pv
 go_enter Tryz.func46,Tryz.ntmps46
 go_wp2_with fail
 refine (zf (Cx.mk ts fin false) gt cap base S q (-1) 0 1 zbn _ (zg (zg htok _) _) hfew (by decide)).mono ?_
 rintro e w1 ⟨rfl,hb1⟩
 rw [h0]
 obtain ⟨X0,X1,m1,t1⟩:=HM.out.two hb1
 have hX0 : Hid (Bx gt S w1 _ _):=X0
 have hX1 : Hid (Bx gt S w1 _ _):=X1
 have hm1 : Hid (Mem (Cx.mk ts fin false) gt cap base S q w1):=m1
 have ht1 : Hid (SB w.heap.size S w S w1):=t1
 clear X0 X1 m1 t1 hb1
 clear htok
 obtain ⟨a0,a1,a2,a3,a4,a5,a6,a7,a8,a9,a10,a11,af⟩:=hX0.out.box
 go_wp2_with fail
 refine (zf (Cx.mk ts fin false) gt cap base S q (-1) 0 1 zbk _ hm1.out.tok hfew (by decide)).mono ?_
 rintro e w2 ⟨rfl,hb2⟩
 rw [h1]
 have hX0n : Hid (Bx gt S w2 _ _):=hX0.out.below hb2
 have hX1n : Hid (Bx gt S w2 _ _):=hX1.out.below hb2
 have ht2 : Hid (SB w.heap.size S w S w2):=ht1.out.below hb2
 have hm2 : Hid (Mem (Cx.mk ts fin false) gt cap base S q w2):=hm1.out.later hb2
 clear hb2 hX0 hX1 ht1 hm1
 have hX0 : Hid (Bx gt S w2 _ _):=hX0n
 have hX1 : Hid (Bx gt S w2 _ _):=hX1n
 clear hX0n hX1n
 clear a0 a1 a2 a3 a4 a5 a6 a7 a8 a9 a10 a11 af
 obtain ⟨a0,a1,a2,a3,a4,a5,a6,a7,a8,a9,a10,a11,af⟩:=hX0.out.box
 go_wp2_with fail
 refine (zf (Cx.mk ts fin false) gt cap base S q (-1) 0 1 sLet _ hm2.out.tok hfew (by decide)).mono ?_
 rintro e w3 ⟨rfl,hb3⟩
 rw [h2]
 have hX0n : Hid (Bx gt S w3 _ _):=hX0.out.below hb3
 have hX1n : Hid (Bx gt S w3 _ _):=hX1.out.below hb3
 have ht3 : Hid (SB w.heap.size S w S w3):=ht2.out.below hb3
 have hm3 : Hid (Mem (Cx.mk ts fin false) gt cap base S q w3):=hm2.out.later hb3
 clear hb3 hX0 hX1 ht2 hm2
 have hX0 : Hid (Bx gt S w3 _ _):=hX0n
 have hX1 : Hid (Bx gt S w3 _ _):=hX1n
 clear hX0n hX1n
 clear a0 a1 a2 a3 a4 a5 a6 a7 a8 a9 a10 a11 af
 obtain ⟨a0,a1,a2,a3,a4,a5,a6,a7,a8,a9,a10,a11,af⟩:=hX0.out.box
 go_wp2_with fail
 refine (zf (Cx.mk ts fin false) gt cap base S q (-1) 0 1 zq _ hm3.out.tok hfew (by decide)).mono ?_
 rintro e w4 ⟨rfl,hb4⟩
 rw [h3]
 have hX0n : Hid (Bx gt S w4 _ _):=hX0.out.below hb4
 have hX1n : Hid (Bx gt S w4 _ _):=hX1.out.below hb4
 have ht4 : Hid (SB w.heap.size S w S w4):=ht3.out.below hb4
 have hm4 : Hid (Mem (Cx.mk ts fin false) gt cap base S q w4):=hm3.out.later hb4
 clear hb4 hX0 hX1 ht3 hm3
 have hX0 : Hid (Bx gt S w4 _ _):=hX0n
 have hX1 : Hid (Bx gt S w4 _ _):=hX1n
 clear hX0n hX1n
 clear a0 a1 a2 a3 a4 a5 a6 a7 a8 a9 a10 a11 af
 obtain ⟨a0,a1,a2,a3,a4,a5,a6,a7,a8,a9,a10,a11,af⟩:=hX0.out.box
 go_wp2_with fail
 refine (zf (Cx.mk ts fin false) gt cap base S q (-1) 0 1 zcc _ hm4.out.tok hfew (by decide)).mono ?_
 rintro e w5 ⟨rfl,hb5⟩
 rw [h4]
 have hX0n : Hid (Bx gt S w5 _ _):=hX0.out.below hb5
 have hX1n : Hid (Bx gt S w5 _ _):=hX1.out.below hb5
 have ht5 : Hid (SB w.heap.size S w S w5):=ht4.out.below hb5
 have hm5 : Hid (Mem (Cx.mk ts fin false) gt cap base S q w5):=hm4.out.later hb5
 clear hb5 hX0 hX1 ht4 hm4
 have hX0 : Hid (Bx gt S w5 _ _):=hX0n
 have hX1 : Hid (Bx gt S w5 _ _):=hX1n
 clear hX0n hX1n
 clear a0 a1 a2 a3 a4 a5 a6 a7 a8 a9 a10 a11 af
 obtain ⟨a0,a1,a2,a3,a4,a5,a6,a7,a8,a9,a10,a11,af⟩:=hX0.out.box
 go_wp2_with fail
 refine (zf (Cx.mk ts fin false) gt cap base S q (-1) 0 1 zck _ hm5.out.tok hfew (by decide)).mono ?_
 rintro e w6 ⟨rfl,hb6⟩
 rw [h5]
 have hX0n : Hid (Bx gt S w6 _ _):=hX0.out.below hb6
 have hX1n : Hid (Bx gt S w6 _ _):=hX1.out.below hb6
 have ht6 : Hid (SB w.heap.size S w S w6):=ht5.out.below hb6
 have hm6 : Hid (Mem (Cx.mk ts fin false) gt cap base S q w6):=hm5.out.later hb6
 clear hb6 hX0 hX1 ht5 hm5
 have hX0 : Hid (Bx gt S w6 _ _):=hX0n
 have hX1 : Hid (Bx gt S w6 _ _):=hX1n
 clear hX0n hX1n
 clear a0 a1 a2 a3 a4 a5 a6 a7 a8 a9 a10 a11 af
 obtain ⟨a0,a1,a2,a3,a4,a5,a6,a7,a8,a9,a10,a11,af⟩:=hX0.out.box
 go_wp2_with fail
 refine (zbf (Cx.mk ts fin false) gt cap base (.ok q) S q (-1) 0 zck _ (zbv q) hm6.out).mono ?_
 rintro e w7 ⟨S7,q7,z7,rfl,i7,m7,s7⟩
 have hX0n : Hid (Bx gt S7 w7 _ _):=hX0.out.stp s7
 have hX1n : Hid (Bx gt S7 w7 _ _):=hX1.out.stp s7
 have ht7 : Hid (SB w.heap.size S w S7 w7):=ht6.out.step s7
 clear hX0 hX1 ht6
 have hX0 : Hid (Bx gt S7 w7 _ _):=hX0n
 have hX1 : Hid (Bx gt S7 w7 _ _):=hX1n
 clear hX0n hX1n
 have hm7 : Hid (Mem (Cx.mk ts fin false) gt cap base S7 q7 w7):=m7
 have hi7 : Hid (Is _ q7 z7):=i7
 clear i7 m7 s7 hm6
 clear a0 a1 a2 a3 a4 a5 a6 a7 a8 a9 a10 a11 af
 go_wp2_with fail
 refine (zet (Cx.mk ts fin false) gt cap base _ S7 q7 z7 _ hi7.out hm7.out).mono ?_
 rintro e w8 ⟨S8,q8,z8,rfl,i8,m8,s8⟩
 have hX0n : Hid (Bx gt S8 w8 _ _):=hX0.out.stp s8
 have hX1n : Hid (Bx gt S8 w8 _ _):=hX1.out.stp s8
 have ht8 : Hid (SB w.heap.size S w S8 w8):=ht7.out.step s8
 clear hX0 hX1 ht7
 have hX0 : Hid (Bx gt S8 w8 _ _):=hX0n
 have hX1 : Hid (Bx gt S8 w8 _ _):=hX1n
 clear hX0n hX1n
 have hm8 : Hid (Mem (Cx.mk ts fin false) gt cap base S8 q8 w8):=m8
 have hi8 : Hid (Is _ q8 z8):=i8
 clear i8 m8 s8 hm7
 go_wp2_with fail
 refine (zp (Cx.mk ts fin false) gt cap base _ S8 q8 z8 0 cSemi _ hi8.out hm8.out).mono ?_
 rintro e w9 ⟨S9,q9,z9,rfl,i9,m9,s9⟩
 have hX0n : Hid (Bx gt S9 w9 _ _):=hX0.out.stp s9
 have hX1n : Hid (Bx gt S9 w9 _ _):=hX1.out.stp s9
 have ht9 : Hid (SB w.heap.size S w S9 w9):=ht8.out.step s9
 clear hX0 hX1 ht8
 have hX0 : Hid (Bx gt S9 w9 _ _):=hX0n
 have hX1 : Hid (Bx gt S9 w9 _ _):=hX1n
 clear hX0n hX1n
 have hm9 : Hid (Mem (Cx.mk ts fin false) gt cap base S9 q9 w9):=m9
 have hi9 : Hid (Is _ q9 z9):=i9
 clear i9 m9 s9 hm8
 go_wp2_with fail
 refine (zdy (Cx.mk ts fin false) gt cap base _ S9 q9 z9 0 5 sNone _ hi9.out hm9.out (zde hi9.out)).mono ?_
 rintro e w10 ⟨S10,q10,z10,rfl,i10,m10,s10⟩
 have hX0n : Hid (Bx gt S10 w10 _ _):=hX0.out.stp s10
 have hX1n : Hid (Bx gt S10 w10 _ _):=hX1.out.stp s10
 have ht10 : Hid (SB w.heap.size S w S10 w10):=ht9.out.step s10
 clear hX0 hX1 ht9
 have hX0 : Hid (Bx gt S10 w10 _ _):=hX0n
 have hX1 : Hid (Bx gt S10 w10 _ _):=hX1n
 clear hX0n hX1n
 have hm10 : Hid (Mem (Cx.mk ts fin false) gt cap base S10 q10 w10):=m10
 have hi10 : Hid (Is _ q10 z10):=i10
 clear i10 m10 s10 hm9
 obtain ⟨b0,b1,b2,b3,b4,b5,b6,b7,b8,b9,b10,b11,bf⟩:=hX1.out.box
 unfold pv
 go_wp2
 refine bodyPost_ret (results_cell_row rfl _ _ (w.heap.size + 1) 81 _ (0,0) _ rfl ((hX1.out.put _ _ _ _ _ _ _ _ _ _ _ _)).heap Tryz.underlying81 rfl (by kernel_rfl)) rfl ?_
 rw [HV.out]
 exact zw rfl hi10.out (hm10.out.put hX1.out _ _ _ _ _ _ _ _ _ _ _ _) (ht10.out.put (by omega) _ _ _ _ _ _ _ _ _ _ _ _)
set_option maxRecDepth 100000 in
set_option maxHeartbeats 6400000 in
theorem zqp (ts : List Tk) (fin : Nat) (gt cap base : Nat) (S : Sv) (q : PS) (w : World) (hm : Mem (Cx.mk ts fin false) gt cap base S q w) (h0 : isT (Cx.mk ts fin false) q.pos 1 zbn = false) (h1 : isT (Cx.mk ts fin false) q.pos 1 zbk = false) (h2 : isT (Cx.mk ts fin false) q.pos 1 sLet = false) (h3 : isT (Cx.mk ts fin false) q.pos 1 zq = false) (h4 : isT (Cx.mk ts fin false) q.pos 1 zcc = false) (h5 : isT (Cx.mk ts fin false) q.pos 1 zck = false) :
  Calls Tryz.prog 46 #[pv (Cx.mk ts fin false) gt cap S q (-1) 0] w (Out (Cx.mk ts fin false) gt cap base (zbd (Cx.mk ts fin false) q) 0 S w):=by
 have HM : Hid (Mem (Cx.mk ts fin false) gt cap base S q w):=hm
 have htok:=hm.tok
 have hfew : (Cx.mk ts fin false).ts.length ≤ 4000:=hm.few
 clear hm
 have HV : Hid (zbd (Cx.mk ts fin false) q = bd (bd (.ok q) (zl (Cx.mk ts fin false) false)) fun a => bd (bd (bd (bd (.ok a.1) (tokP (Cx.mk ts fin false) 4 cEq)) (pE (Cx.mk ts fin false) .sum 0)) (tokP (Cx.mk ts fin false) 4 cSemi)) (zbz (Cx.mk ts fin false) 3 a.2)):=by show zbd (Cx.mk ts fin false) q = _; rw [zbd,h0,h1,h2,h3,h4,h5]; rfl
 unfold pv
 go_enter Tryz.func46,Tryz.ntmps46
 go_wp2_with fail
 refine (zf (Cx.mk ts fin false) gt cap base S q (-1) 0 1 zbn _ (zg (zg htok _) _) hfew (by decide)).mono ?_
 rintro e w1 ⟨rfl,hb1⟩
 rw [h0]
 obtain ⟨X0,X1,m1,t1⟩:=HM.out.two hb1
 have hX0 : Hid (Bx gt S w1 _ _):=X0
 have hX1 : Hid (Bx gt S w1 _ _):=X1
 have hm1 : Hid (Mem (Cx.mk ts fin false) gt cap base S q w1):=m1
 have ht1 : Hid (SB w.heap.size S w S w1):=t1
 clear X0 X1 m1 t1 hb1
 clear htok
 obtain ⟨a0,a1,a2,a3,a4,a5,a6,a7,a8,a9,a10,a11,af⟩:=hX0.out.box
 go_wp2_with fail
 refine (zf (Cx.mk ts fin false) gt cap base S q (-1) 0 1 zbk _ hm1.out.tok hfew (by decide)).mono ?_
 rintro e w2 ⟨rfl,hb2⟩
 rw [h1]
 have hX0n : Hid (Bx gt S w2 _ _):=hX0.out.below hb2
 have hX1n : Hid (Bx gt S w2 _ _):=hX1.out.below hb2
 have ht2 : Hid (SB w.heap.size S w S w2):=ht1.out.below hb2
 have hm2 : Hid (Mem (Cx.mk ts fin false) gt cap base S q w2):=hm1.out.later hb2
 clear hb2 hX0 hX1 ht1 hm1
 have hX0 : Hid (Bx gt S w2 _ _):=hX0n
 have hX1 : Hid (Bx gt S w2 _ _):=hX1n
 clear hX0n hX1n
 clear a0 a1 a2 a3 a4 a5 a6 a7 a8 a9 a10 a11 af
 obtain ⟨a0,a1,a2,a3,a4,a5,a6,a7,a8,a9,a10,a11,af⟩:=hX0.out.box
 go_wp2_with fail
 refine (zf (Cx.mk ts fin false) gt cap base S q (-1) 0 1 sLet _ hm2.out.tok hfew (by decide)).mono ?_
 rintro e w3 ⟨rfl,hb3⟩
 rw [h2]
 have hX0n : Hid (Bx gt S w3 _ _):=hX0.out.below hb3
 have hX1n : Hid (Bx gt S w3 _ _):=hX1.out.below hb3
 have ht3 : Hid (SB w.heap.size S w S w3):=ht2.out.below hb3
 have hm3 : Hid (Mem (Cx.mk ts fin false) gt cap base S q w3):=hm2.out.later hb3
 clear hb3 hX0 hX1 ht2 hm2
 have hX0 : Hid (Bx gt S w3 _ _):=hX0n
 have hX1 : Hid (Bx gt S w3 _ _):=hX1n
 clear hX0n hX1n
 clear a0 a1 a2 a3 a4 a5 a6 a7 a8 a9 a10 a11 af
 obtain ⟨a0,a1,a2,a3,a4,a5,a6,a7,a8,a9,a10,a11,af⟩:=hX0.out.box
 go_wp2_with fail
 refine (zf (Cx.mk ts fin false) gt cap base S q (-1) 0 1 zq _ hm3.out.tok hfew (by decide)).mono ?_
 rintro e w4 ⟨rfl,hb4⟩
 rw [h3]
 have hX0n : Hid (Bx gt S w4 _ _):=hX0.out.below hb4
 have hX1n : Hid (Bx gt S w4 _ _):=hX1.out.below hb4
 have ht4 : Hid (SB w.heap.size S w S w4):=ht3.out.below hb4
 have hm4 : Hid (Mem (Cx.mk ts fin false) gt cap base S q w4):=hm3.out.later hb4
 clear hb4 hX0 hX1 ht3 hm3
 have hX0 : Hid (Bx gt S w4 _ _):=hX0n
 have hX1 : Hid (Bx gt S w4 _ _):=hX1n
 clear hX0n hX1n
 clear a0 a1 a2 a3 a4 a5 a6 a7 a8 a9 a10 a11 af
 obtain ⟨a0,a1,a2,a3,a4,a5,a6,a7,a8,a9,a10,a11,af⟩:=hX0.out.box
 go_wp2_with fail
 refine (zf (Cx.mk ts fin false) gt cap base S q (-1) 0 1 zcc _ hm4.out.tok hfew (by decide)).mono ?_
 rintro e w5 ⟨rfl,hb5⟩
 rw [h4]
 have hX0n : Hid (Bx gt S w5 _ _):=hX0.out.below hb5
 have hX1n : Hid (Bx gt S w5 _ _):=hX1.out.below hb5
 have ht5 : Hid (SB w.heap.size S w S w5):=ht4.out.below hb5
 have hm5 : Hid (Mem (Cx.mk ts fin false) gt cap base S q w5):=hm4.out.later hb5
 clear hb5 hX0 hX1 ht4 hm4
 have hX0 : Hid (Bx gt S w5 _ _):=hX0n
 have hX1 : Hid (Bx gt S w5 _ _):=hX1n
 clear hX0n hX1n
 clear a0 a1 a2 a3 a4 a5 a6 a7 a8 a9 a10 a11 af
 obtain ⟨a0,a1,a2,a3,a4,a5,a6,a7,a8,a9,a10,a11,af⟩:=hX0.out.box
 go_wp2_with fail
 refine (zf (Cx.mk ts fin false) gt cap base S q (-1) 0 1 zck _ hm5.out.tok hfew (by decide)).mono ?_
 rintro e w6 ⟨rfl,hb6⟩
 rw [h5]
 have hX0n : Hid (Bx gt S w6 _ _):=hX0.out.below hb6
 have hX1n : Hid (Bx gt S w6 _ _):=hX1.out.below hb6
 have ht6 : Hid (SB w.heap.size S w S w6):=ht5.out.below hb6
 have hm6 : Hid (Mem (Cx.mk ts fin false) gt cap base S q w6):=hm5.out.later hb6
 clear hb6 hX0 hX1 ht5 hm5
 have hX0 : Hid (Bx gt S w6 _ _):=hX0n
 have hX1 : Hid (Bx gt S w6 _ _):=hX1n
 clear hX0n hX1n
 clear a0 a1 a2 a3 a4 a5 a6 a7 a8 a9 a10 a11 af
 obtain ⟨a0,a1,a2,a3,a4,a5,a6,a7,a8,a9,a10,a11,af⟩:=hX0.out.box
 go_wp2_with fail
 refine (zby (Cx.mk ts fin false) gt cap base (.ok q) S q (-1) 0 false _ (zbv q) hm6.out).mono ?_
 rintro e w7 ⟨S7,q7,z7,n7,rfl,i7,m7,s7⟩
 have hX0n : Hid (Bx gt S7 w7 _ _):=hX0.out.stp s7
 have hX1n : Hid (Bx gt S7 w7 _ _):=hX1.out.stp s7
 have ht7 : Hid (SB w.heap.size S w S7 w7):=ht6.out.step s7
 clear hX0 hX1 ht6
 have hX0 : Hid (Bx gt S7 w7 _ _):=hX0n
 have hX1 : Hid (Bx gt S7 w7 _ _):=hX1n
 clear hX0n hX1n
 have hm7 : Hid (Mem (Cx.mk ts fin false) gt cap base S7 q7 w7):=m7
 have hi7 : Hid (Is2 _ q7 z7 n7):=i7
 clear i7 m7 s7 hm6
 clear a0 a1 a2 a3 a4 a5 a6 a7 a8 a9 a10 a11 af
 have hlt2 : w.heap.size + 1 < w7.heap.size:=hX1.out.lt
 unfold pv
 go_upto_region 19 with fail
 refine zm (R:=fun W => Bx gt S7 W (w.heap.size) _ ∧ Bx gt S7 W (w.heap.size + 1) _ ∧ Bx gt S7 W (w7.heap.size) _ ∧ Mem (Cx.mk ts fin false) gt cap base S7 q7 W ∧ SB w.heap.size S w S7 W) ⟨(hX0.out.alloc _),(hX1.out.alloc _),(Bx.new hm7.out _),(hm7.out.alloc _),(ht7.out.alloc _)⟩ ?_
 clear hX0 hX1 ht7 hm7
 rintro w8 ⟨X0,X1,X2,m8,t8⟩
 have hX0 : Hid (Bx gt S7 w8 _ _):=X0
 have hX1 : Hid (Bx gt S7 w8 _ _):=X1
 have hX2 : Hid (Bx gt S7 w8 _ _):=X2
 have hm8 : Hid (Mem (Cx.mk ts fin false) gt cap base S7 q7 w8):=m8
 have ht8 : Hid (SB w.heap.size S w S7 w8):=t8
 clear m8 t8 X0 X1 X2
 obtain ⟨c0,c1,c2,c3,c4,c5,c6,c7,c8,c9,c10,c11,cf⟩:=hX2.out.box
 go_wp2_with fail
 refine (zp (Cx.mk ts fin false) gt cap base _ S7 q7 z7 0 cEq _ hi7.out.fst hm8.out).mono ?_
 rintro e w9 ⟨S9,q9,z9,rfl,i9,m9,s9⟩
 have hX0n : Hid (Bx gt S9 w9 _ _):=hX0.out.stp s9
 have hX1n : Hid (Bx gt S9 w9 _ _):=hX1.out.stp s9
 have hX2n : Hid (Bx gt S9 w9 _ _):=hX2.out.stp s9
 have ht9 : Hid (SB w.heap.size S w S9 w9):=ht8.out.step s9
 clear hX0 hX1 hX2 ht8
 have hX0 : Hid (Bx gt S9 w9 _ _):=hX0n
 have hX1 : Hid (Bx gt S9 w9 _ _):=hX1n
 have hX2 : Hid (Bx gt S9 w9 _ _):=hX2n
 clear hX0n hX1n hX2n
 have hm9 : Hid (Mem (Cx.mk ts fin false) gt cap base S9 q9 w9):=m9
 have hi9 : Hid (Is _ q9 z9):=i9
 clear i9 m9 s9 hm8
 clear c0 c1 c2 c3 c4 c5 c6 c7 c8 c9 c10 c11 cf
 go_wp2_with fail
 refine (zet (Cx.mk ts fin false) gt cap base _ S9 q9 z9 _ hi9.out hm9.out).mono ?_
 rintro e w10 ⟨S10,q10,z10,rfl,i10,m10,s10⟩
 have hX0n : Hid (Bx gt S10 w10 _ _):=hX0.out.stp s10
 have hX1n : Hid (Bx gt S10 w10 _ _):=hX1.out.stp s10
 have hX2n : Hid (Bx gt S10 w10 _ _):=hX2.out.stp s10
 have ht10 : Hid (SB w.heap.size S w S10 w10):=ht9.out.step s10
 clear hX0 hX1 hX2 ht9
 have hX0 : Hid (Bx gt S10 w10 _ _):=hX0n
 have hX1 : Hid (Bx gt S10 w10 _ _):=hX1n
 have hX2 : Hid (Bx gt S10 w10 _ _):=hX2n
 clear hX0n hX1n hX2n
 have hm10 : Hid (Mem (Cx.mk ts fin false) gt cap base S10 q10 w10):=m10
 have hi10 : Hid (Is _ q10 z10):=i10
 clear i10 m10 s10 hm9
 go_wp2_with fail
 refine (zp (Cx.mk ts fin false) gt cap base _ S10 q10 z10 0 cSemi _ hi10.out hm10.out).mono ?_
 rintro e w11 ⟨S11,q11,z11,rfl,i11,m11,s11⟩
 have hX0n : Hid (Bx gt S11 w11 _ _):=hX0.out.stp s11
 have hX1n : Hid (Bx gt S11 w11 _ _):=hX1.out.stp s11
 have hX2n : Hid (Bx gt S11 w11 _ _):=hX2.out.stp s11
 have ht11 : Hid (SB w.heap.size S w S11 w11):=ht10.out.step s11
 clear hX0 hX1 hX2 ht10
 have hX0 : Hid (Bx gt S11 w11 _ _):=hX0n
 have hX1 : Hid (Bx gt S11 w11 _ _):=hX1n
 have hX2 : Hid (Bx gt S11 w11 _ _):=hX2n
 clear hX0n hX1n hX2n
 have hm11 : Hid (Mem (Cx.mk ts fin false) gt cap base S11 q11 w11):=m11
 have hi11 : Hid (Is _ q11 z11):=i11
 clear i11 m11 s11 hm10
 go_wp2_with fail
 refine (zdy (Cx.mk ts fin false) gt cap base _ S11 q11 z11 0 3 n7 _ hi11.out hm11.out (zde hi11.out)).mono ?_
 rintro e w12 ⟨S12,q12,z12,rfl,i12,m12,s12⟩
 have hX0n : Hid (Bx gt S12 w12 _ _):=hX0.out.stp s12
 have hX1n : Hid (Bx gt S12 w12 _ _):=hX1.out.stp s12
 have hX2n : Hid (Bx gt S12 w12 _ _):=hX2.out.stp s12
 have ht12 : Hid (SB w.heap.size S w S12 w12):=ht11.out.step s12
 clear hX0 hX1 hX2 ht11
 have hX0 : Hid (Bx gt S12 w12 _ _):=hX0n
 have hX1 : Hid (Bx gt S12 w12 _ _):=hX1n
 have hX2 : Hid (Bx gt S12 w12 _ _):=hX2n
 clear hX0n hX1n hX2n
 have hm12 : Hid (Mem (Cx.mk ts fin false) gt cap base S12 q12 w12):=m12
 have hi12 : Hid (Is _ q12 z12):=i12
 clear i12 m12 s12 hm11
 obtain ⟨b0,b1,b2,b3,b4,b5,b6,b7,b8,b9,b10,b11,bf⟩:=hX1.out.box
 unfold pv
 go_wp2
 refine bodyPost_ret (results_cell_row rfl _ _ (w.heap.size + 1) 81 _ (0,0) _ rfl ((hX1.out.put _ _ _ _ _ _ _ _ _ _ _ _)).heap Tryz.underlying81 rfl (by kernel_rfl)) rfl ?_
 rw [HV.out,← hi7.out.bind (fun q n => bd (bd (bd (bd (.ok q) (tokP (Cx.mk ts fin false) 4 cEq)) (pE (Cx.mk ts fin false) .sum 0)) (tokP (Cx.mk ts fin false) 4 cSemi)) (zbz (Cx.mk ts fin false) 3 n)),← zxh]
 exact zw rfl hi12.out (hm12.out.put hX1.out _ _ _ _ _ _ _ _ _ _ _ _) (ht12.out.put (by omega) _ _ _ _ _ _ _ _ _ _ _ _)
theorem zxi (ts : List Tk) (fin : Nat) (gt cap base : Nat) (S : Sv) (q : PS) (w : World) (hm : Mem (Cx.mk ts fin false) gt cap base S q w) :
  Calls Tryz.prog 46 #[pv (Cx.mk ts fin false) gt cap S q (-1) 0] w (Out (Cx.mk ts fin false) gt cap base (zbd (Cx.mk ts fin false) q) 0 S w):=by
 cases h0 : isT (Cx.mk ts fin false) q.pos 1 zbn with
 | true => exact zna ts fin gt cap base S q w hm h0
 | false =>
  cases h1 : isT (Cx.mk ts fin false) q.pos 1 zbk with
  | true => exact znb ts fin gt cap base S q w hm h0 h1
  | false =>
   cases h2 : isT (Cx.mk ts fin false) q.pos 1 sLet with
   | true => exact zpf ts fin gt cap base S q w hm h0 h1 h2
   | false =>
    cases h3 : isT (Cx.mk ts fin false) q.pos 1 zq with
    | true => exact zlm ts fin gt cap base S q w hm h0 h1 h2 h3
    | false =>
     cases h4 : isT (Cx.mk ts fin false) q.pos 1 zcc with
     | true => exact znk ts fin gt cap base S q w hm h0 h1 h2 h3 h4
     | false =>
      cases h5 : isT (Cx.mk ts fin false) q.pos 1 zck with
      | true => exact znl ts fin gt cap base S q w hm h0 h1 h2 h3 h4 h5
      | false =>
       exact zqp ts fin gt cap base S q w hm h0 h1 h2 h3 h4 h5
theorem zyt (C : Cx) (gt cap base : Nat) (S : Sv) (q : PS) (w : World) (hm : Mem C gt cap base S q w) :
  Calls Tryz.prog 46 #[pv C gt cap S q (-1) 0] w (Out C gt cap base (zbd C q) 0 S w):=by
 obtain ⟨ts,fin,scr⟩:=C
 cases scr with
 | true => exact zys ts fin gt cap base S q w hm
 | false => exact zxi ts fin gt cap base S q w hm
end Go.Proofs.YtgchhhmfloemlaaGreat
namespace Go.Proofs.YtgchhhmfloemlaaGreat
open Go.RowKit Go.PlainAid

set_option maxRecDepth 100000 in
set_option maxHeartbeats 6400000 in
theorem zbcg (s : ByteArray) (scr : Bool) (w : World) (hs : s.size ≤ 4294967296) :
  Calls Tryz.prog 14 #[.string s,.bool scr] w fun e w' => ParseOut s scr w e w' ∧ Below w.heap.size w w':=by
 obtain ⟨i0,hi,hz0,hz1,hz2⟩:=info_parts Tryz.infoExp
 go_enter Tryz.func14,Tryz.ntmps14
 go_wp2_with fail
 refine (zbge s scr _ hs).mono ?_
 rintro e w1 ⟨⟨r1,hr1,hout1⟩,b1⟩
 have HB1 : Hid (Below w.heap.size w w1):=((Below.refl _ _).alloc (Nat.le_refl _) _).trans (b1.mono (by rw [ze]; omega))
 have hG : w1.heap[w.heap.size]? = some (.cells #[.slice none 0 0,.slice none 0 0,.slice none 0 0,.slice none 0 0,.slice none 0 0] 36 (0,0)):=(b1.block _ (by rw [ze]; omega)).trans (heap_alloc_new w _)
 rw [ze] at b1
 cases r1 with
 | error p =>
  obtain ⟨g,cap,rfl,own0⟩:=hout1
  have HY : Hid (zfq s scr (.error p)):=⟨_,hr1,rfl⟩
  have HG : Hid (_ = _):=hG
  obtain ⟨c0,c1,c2,c3,c4,cf⟩:=zi hG
  have dz : decide ((0 : Int) ≤ (p : Int)) = true:=decide_eq_true (by omega)
  clear own0 hr1 b1 hG
  go_wp2
  refine bodyPost_ret (zj rfl _ _ w.heap.size 36 _ (0,0) _ rfl (put5 HG.out) Tryz.underlying36 rfl (by kernel_rfl)) rfl ?_
  exact ⟨⟨_,HY.out,rfl⟩,zkm HB1.out (Nat.le_refl _) _ _ _ _ _⟩
 | ok ts =>
  obtain ⟨g,n,cap,rfl,own0⟩:=hout1
  obtain rfl : n = ts.length:=own0.2
  rw [ze] at own0
  have hlt1 : w.heap.size + 1 ≤ w1.heap.size:=by have:=b1.size; rw [ze] at this; exact this
  have hlen:=zuw hr1
  have HR : Hid (LexR s scr (.ok ts)):=hr1
  have hM0 : Mem ⟨ts,s.size,scr⟩ g cap (w.heap.size + 1) S0 zfe w1:=zso own0 hlen hlt1
  have HM0 : Hid (Mem ⟨ts,s.size,scr⟩ g cap (w.heap.size + 1) S0 zfe w1):=hM0
  have HG : Hid (_ = _):=hG
  clear own0 hr1 hM0 hG
  go_wp2
  go_loopg [] (ts.length + 1) (fun k wr => ∃ (x' : PR) (S' : Sv) (q' : PS) (z' : Int),Is x' q' z' ∧ bd x' (zbu ⟨ts,s.size,scr⟩) = zbu ⟨ts,s.size,scr⟩ zfe ∧ (z' < 0 → ts.length - q'.pos < k) ∧ Mem ⟨ts,s.size,scr⟩ g cap (w.heap.size + 1) S' q' wr ∧ Below w.heap.size w wr ∧ Bx g S' wr w1.heap.size #[.slice (some ⟨g,0,none⟩) ts.length cap,.int .i64 q'.pos,.int .i64 s.size,.bool scr,.slice S'.rq.a q'.rq.length S'.rq.cap,.slice S'.im.a q'.im.length S'.im.cap,.slice S'.ep.a q'.ep.length S'.ep.cap,.slice S'.st.a q'.st.length S'.st.cap,.slice S'.ex.a q'.ex.length S'.ex.cap,.slice S'.la.a q'.la.length S'.la.cap,.int .i64 z',.int .i64 0] ∧ wr.heap[w.heap.size]? = some (.cells #[.slice none 0 0,.slice none 0 0,.slice none 0 0,.slice none 0 0,.slice none 0 0] 36 (0,0)))
  case atStart => exact ⟨.ok zfe,S0,zfe,-1,zbv _,rfl,fun _ => by show ts.length - 0 < ts.length + 1; omega,HM0.out.alloc _,HB1.out.alloc HB1.out.size _,Bx.new HM0.out _,(Below.heap_alloc _ _ _ (by omega)).trans HG.out⟩
  case round =>
   obtain ⟨x2,S2,q2,z2,i2,e2,l2,m2,t2,X0,G2⟩:=hrel
   have hi2 : Hid (Is x2 q2 z2):=i2
   have he2 : Hid (bd x2 (zbu ⟨ts,s.size,scr⟩) = zbu ⟨ts,s.size,scr⟩ zfe):=e2
   have hl2 : Hid (z2 < 0 → ts.length - q2.pos < gk):=l2
   have hm2 : Hid (Mem ⟨ts,s.size,scr⟩ g cap (w.heap.size + 1) S2 q2 wr):=m2
   have ht2 : Hid (Below w.heap.size w wr):=t2
   have hX0 : Hid (Bx g S2 wr _ _):=X0
   have HG2 : Hid (_ = _):=G2
   have hpl : q2.pos ≤ ts.length:=m2.inv.pos
   obtain ⟨a0,a1,a2,a3,a4,a5,a6,a7,a8,a9,a10,a11,af⟩:=X0.box
   clear i2 e2 l2 m2 t2 X0 G2
   by_cases hz : z2 < 0
   ·have dz : decide (z2 < 0) = true:=decide_eq_true hz
    obtain ⟨rfl,rfl⟩:=zcp hi2.out hz
    by_cases hp : q2.pos < ts.length
    ·have hlk:=hl2.out hz
     go_wp2_with fail
     refine (zyt ⟨ts,s.size,scr⟩ g cap (w.heap.size + 1) S2 q2 _ hm2.out).mono ?_
     rintro e w3 ⟨S3,q3,z3,rfl,i3,m3,s3⟩
     have hm3 : Hid (Mem ⟨ts,s.size,scr⟩ g cap (w.heap.size + 1) S3 q3 w3):=m3
     have hi3 : Hid (Is (zbd ⟨ts,s.size,scr⟩ q2) q3 z3):=i3
     have hbs : Hid (Below (w.heap.size + 1) wr w3):=s3.under hm2.out.base hm2.out.own
     have hX3 : Hid (Bx g S3 w3 w1.heap.size _):=hX0.out.stp s3
     have ht3 : Hid (Below w.heap.size w w3):=ht2.out.trans (hbs.out.mono (by omega))
     have HG3 : Hid (w3.heap[w.heap.size]? = some (.cells #[.slice none 0 0,.slice none 0 0,.slice none 0 0,.slice none 0 0,.slice none 0 0] 36 (0,0))):=(hbs.out.block _ (by omega)).trans HG2.out
     have HE : Hid (bd (zbd ⟨ts,s.size,scr⟩ q2) (zbu ⟨ts,s.size,scr⟩) = zbu ⟨ts,s.size,scr⟩ zfe):=by
      show _ = _
      rw [← he2.out,zbe,zjj,if_pos hp]
     have HP : Hid (z3 < 0 → q2.pos < q3.pos):=fun h => zlb (zcp hi3.out h).1
     clear i3 m3 s3 a0 a1 a2 a3 a4 a5 a6 a7 a8 a9 a10 a11 af
     obtain ⟨a0,a1,a2,a3,a4,a5,a6,a7,a8,a9,a10,a11,af⟩:=hX3.out.box
     unfold pv
     go_wp2
     go_roundg (gk - 1)
     case rel => exact ⟨_,S3,q3,z3,hi3.out,HE.out,fun h => by have:=HP.out h; omega,hm3.out.put hX3.out _ _ _ _ _ _ _ _ _ _ _ _,zee ht3.out (by omega) _ _ _ _ _ _ _ _ _ _ _ _,hX3.out.put _ _ _ _ _ _ _ _ _ _ _ _,(zhu (by omega) _ _ _ _ _ _ _ _ _ _ _ _).trans HG3.out⟩
     case measure => omega
    ·have HD : Hid (zbu ⟨ts,s.size,scr⟩ zfe = .ok q2):=by
      show _ = _
      rw [← he2.out,zbe,zjj,if_neg hp]
     have HY : Hid (zfq s scr (.ok q2)):=⟨_,HR.out,HD.out.symm⟩
     have hbw : w1.heap.size < wr.heap.size:=hX0.out.lt
     have hlep:=hm2.out.inv.ep
     have hown:=hm2.out.own.ep
     have hbs:=hm2.out.base
     rcases hm2.out.own.la.nil_or with ⟨ha,hc,hn⟩ | ⟨gl,ha⟩
     ·have HN : Hid (q2.la = []):=List.eq_nil_of_length_eq_zero hn
      rw [ha,hc,hn] at a9
      obtain ⟨c0,c1,c2,c3,c4,cf⟩:=zi HG2.out
      clear ha hc hn
      go_wp2_with (at_builtin; refine zbjq _ rfl _ _ 32 rfl 102 i0 Tryz.underlying32 hi (w.heap.size + 1) 4 q2.ep.length S2.ep _ (by rfl) hown (by rfl) ?_)
      clear hown
      go_wp2
      refine bodyPost_ret (zj rfl _ _ w.heap.size 36 _ (0,0) _ rfl (put5 ((zo (by omega)).trans HG2.out)) Tryz.underlying36 rfl (by kernel_rfl)) rfl ?_
      refine ⟨⟨_,HY.out,S2,by simp [modV,HN.out],hm2.out.whole0 HN.out (Nat.lt_succ_self _) hX0.out.free fun k h1 h2 => ?_⟩,zkm (ht2.out.setCell (by show _ ≤ w1.heap.size; omega) _) (Nat.le_refl _) _ _ _ _ _⟩
      rw [zo h1,zo h1,zo h1,zo h1,zo h1,zo h2]
     ·have hla : OwnR wr (w.heap.size + 1) 102 4 ⟨some ⟨gl,0,none⟩,S2.la.cap⟩ q2.la.length (q2.la.flatMap epL):=by have:=hm2.out.own.la; unfold OwnR at this ⊢; rw [ha] at this; exact this
      rw [ha] at a9
      go_wp2_with (at_builtin; refine zbga _ rfl _ _ 32 rfl (w.heap.size + 1) 102 i0 _ 4 56 Tryz.underlying32 hi hz0 hz1 hz2 rfl (by decide) (by decide) S2.ep q2.ep.length _ (by rfl) hown gl q2.la.length S2.la.cap (w.heap.size + 1) _ (by rfl) hla (zrv _) (by omega) hbs ?_)
      intro r' w3 hr hg hat
      have HRR : Hid (OwnR w3 (w.heap.size + 1) 102 4 r' (q2.ep.length + q2.la.length) _):=hr
      have HGR : Hid (World.grownBy wr w3 _):=hg
      have HAT : Hid (_ ∨ _):=hat
      have hne:=fun b hb => wpos (W:=wr) hm2.out.own (Nat.le_refl _) (r:=S2.ep.blk) (fun k e => .inr (.inr (.inl e))) b hb
      have hX3 : Hid (w3.heap[w1.heap.size]? = _):=(hg.block _ hbw (fun e => hX0.out.free (.inr (.inr (.inl e.symm))))).trans hX0.out.heap
      have HG3 : Hid (w3.heap[w.heap.size]? = _):=(hg.block _ (by omega) (fun e => by have:=(hown.typed e.symm).1; omega)).trans HG2.out
      clear a0 a1 a2 a3 a4 a5 a6 a7 a8 a9 a10 a11 af hr hg hat hne hown hla
      obtain ⟨a0,a1,a2,a3,a4,a5,a6,a7,a8,a9,a10,a11,af⟩:=zbw hX3.out
      obtain ⟨c0,c1,c2,c3,c4,cf⟩:=zi HG3.out
      go_wp2
      refine bodyPost_ret (zj rfl _ _ w.heap.size 36 _ (0,0) _ rfl (put5 ((zo (by omega)).trans HG3.out)) Tryz.underlying36 rfl (by kernel_rfl)) rfl ?_
      refine ⟨⟨_,HY.out,{ S2 with ep:=r' },by simp [modV],hm2.out.whole HGR.out HRR.out HAT.out (Nat.lt_succ_self _) hbw hX0.out.free fun k h1 h2 => ?_⟩,zkm ((ht2.out.trans (Below.mono (B:=w.heap.size + 1) ⟨HGR.out.os,HGR.out.tape,HGR.out.output,HGR.out.size,fun k hk => HGR.out.block k (by omega) fun e => by have:=(hm2.out.own.ep.typed e.symm).1; omega⟩ (by omega))).setCell (by show _ ≤ w1.heap.size; omega) _) (Nat.le_refl _) _ _ _ _ _⟩
      rw [zo h1,zo h1,zo h1,zo h1,zo h1,zo h2]
   ·have dz : decide (z2 < 0) = false:=decide_eq_false hz
    obtain ⟨e0,rfl,rfl⟩:=zin hi2.out hz
    have dz2 : decide ((0 : Int) ≤ (e0 : Int)) = true:=decide_eq_true (by omega)
    have HY : Hid (zfq s scr (.error e0)):=⟨_,HR.out,(show (.error e0 : PR) = zbu ⟨ts,s.size,scr⟩ zfe from he2.out)⟩
    obtain ⟨c0,c1,c2,c3,c4,cf⟩:=zi HG2.out
    go_wp2
    go_region
    all_goals
     go_wp2
     refine bodyPost_ret (zj rfl _ _ w.heap.size 36 _ (0,0) _ rfl (put5 HG2.out) Tryz.underlying36 rfl (by kernel_rfl)) rfl ?_
     exact ⟨⟨_,HY.out,rfl⟩,(zkm ht2.out (Nat.le_refl _) _ _ _ _ _).drew⟩
end Go.Proofs.YtgchhhmfloemlaaGreat
