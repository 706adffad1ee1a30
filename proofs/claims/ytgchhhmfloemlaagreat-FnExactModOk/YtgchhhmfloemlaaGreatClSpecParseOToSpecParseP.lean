/-
  What spec's l4Export answers to a list of names: the walks.
  What spec's l4Item answers: the walks.
-/
import Derived.Test.YtgchhhmfloemlaaGreatClSpecParseMToSpecParseN
namespace Go.Proofs.YtgchhhmfloemlaaGreat
open Go.RowKit Go.PlainAid

set_option maxRecDepth 100000 in
set_option maxHeartbeats 6400000 in
theorem zui (C : Cx) (gt cap base : Nat) (S : Sv) (q : PS) (w : World) (hm : Mem C gt cap base S q w) (hw : isT C q.pos 1 zbk = true) (h1 : isT C (q.pos + 1) 4 zbm = true) :
  Calls Tryz.prog 96 #[pv C gt cap S q (-1) 0] w (Out C gt cap base (zbi C q) 0 S w):=by
 have HM : Hid (Mem C gt cap base S q w):=hm
 have hfew:=hm.few
 clear hm
 have HV : Hid (zbi C q = bd (zil C true (adv q)) fun a => if !anyB a.2 && !isT C a.1.pos 1 zbt then bd (tokP C 4 cSemi a.1) fun q => zbc (fun e => zt C (zu e)) a.2 (.ok q) else bd (zeq C (zdi C (.ok a.1))) fun b => zbc (fun e => zt C (zbl b.2 e)) a.2 (.ok b.1)):=by
  show _ = _
  rw [zbi,tokP,if_pos hw,zbe]
  rw [zn,h1]
  rfl
 unfold pv
 go_enter Tryz.func96,Tryz.ntmps96
 go_wp2_with fail
 refine (zbf C gt cap base (.ok q) S q (-1) 0 zbk _ (zbv q) ((HM.out.alloc _).alloc _)).mono ?_
 rintro e w1 ⟨S1,q1,z1,rfl,i1,m1,s1⟩
 obtain ⟨X0,X1,t1⟩:=HM.out.two2 s1
 have hX0 : Hid (Bx gt S1 w1 _ _):=X0
 have hX1 : Hid (Bx gt S1 w1 _ _):=X1
 have hm1 : Hid (Mem C gt cap base S1 q1 w1):=m1
 have ht1 : Hid (SB w.heap.size S w S1 w1):=t1
 have hi1 : Hid (Is _ q1 z1):=i1
 clear X0 X1 i1 m1 t1 s1
 obtain ⟨hq1,rfl⟩:=zge hi1.out hw
 have HQ : Hid (q1 = adv q):=hq1
 have HQP : Hid (q1.pos = q.pos + 1):=by show q1.pos = q.pos + 1; rw [hq1]; rfl
 clear hq1 hi1
 obtain ⟨a0,a1,a2,a3,a4,a5,a6,a7,a8,a9,a10,a11,af⟩:=hX0.out.box
 unfold pv
 go_upto_region 2 with fail
 refine zm (R:=fun W => Bx gt S1 W (w.heap.size) _ ∧ Bx gt S1 W (w.heap.size + 1) _ ∧ Mem C gt cap base S1 q1 W ∧ SB w.heap.size S w S1 W) ⟨(hX0.out.put _ _ _ _ _ _ _ _ _ _ _ _),(hX1.out.other (by omega) _ _ _ _ _ _ _ _ _ _ _ _),(hm1.out.put hX0.out _ _ _ _ _ _ _ _ _ _ _ _),(ht1.out.put (by omega) _ _ _ _ _ _ _ _ _ _ _ _)⟩ ?_
 clear a0 a1 a2 a3 a4 a5 a6 a7 a8 a9 a10 a11 af
 clear hX0 hX1 ht1 hm1
 rintro w2 ⟨X0,X1,m2,t2⟩
 have hX0 : Hid (Bx gt S1 w2 _ _):=X0
 have hX1 : Hid (Bx gt S1 w2 _ _):=X1
 have hm2 : Hid (Mem C gt cap base S1 q1 w2):=m2
 have ht2 : Hid (SB w.heap.size S w S1 w2):=t2
 clear m2 t2 X0 X1
 have HV1 : Hid (zbi C q = bd (zil C true q1) fun a => if !anyB a.2 && !isT C a.1.pos 1 zbt then bd (tokP C 4 cSemi a.1) fun q => zbc (fun e => zt C (zu e)) a.2 (.ok q) else bd (zeq C (zdi C (.ok a.1))) fun b => zbc (fun e => zt C (zbl b.2 e)) a.2 (.ok b.1)):=by show _ = _; rw [HQ.out]; exact HV.out
 obtain ⟨a0,a1,a2,a3,a4,a5,a6,a7,a8,a9,a10,a11,af⟩:=hX0.out.box
 go_wp2_with fail
 refine (zf C gt cap base S1 q1 (-1) 0 4 zbm _ hm2.out.tok hfew (by decide)).mono ?_
 rintro e w3 ⟨rfl,hb3⟩
 rw [HQP.out,h1]
 have hX0n : Hid (Bx gt S1 w3 _ _):=hX0.out.below hb3
 have hX1n : Hid (Bx gt S1 w3 _ _):=hX1.out.below hb3
 have ht3 : Hid (SB w.heap.size S w S1 w3):=ht2.out.below hb3
 have hm3 : Hid (Mem C gt cap base S1 q1 w3):=hm2.out.later hb3
 clear hb3 hX0 hX1 ht2 hm2
 have hX0 : Hid (Bx gt S1 w3 _ _):=hX0n
 have hX1 : Hid (Bx gt S1 w3 _ _):=hX1n
 clear hX0n hX1n
 clear a0 a1 a2 a3 a4 a5 a6 a7 a8 a9 a10 a11 af
 obtain ⟨a0,a1,a2,a3,a4,a5,a6,a7,a8,a9,a10,a11,af⟩:=hX0.out.box
 clear HQP
 have hsz:=ht3.out.size
 go_wp2_with fail
 refine (zpn C gt cap base S1 q1 0 true _ hm3.out).mono ?_
 rintro e w4 ⟨S4,q4,z4,⟨ra,rc⟩,l,rfl,i4,m4,s4,R0,hl⟩
 obtain ⟨g,rfl⟩ : ∃ g,ra = some ⟨g,0,none⟩:=R0.addr
 have hX0n : Hid (Bx gt S4 w4 _ _):=hX0.out.stp s4
 have hX1n : Hid (Bx gt S4 w4 _ _):=hX1.out.stp s4
 have ht4 : Hid (SB w.heap.size S w S4 w4):=ht3.out.step s4
 clear hX0 hX1 ht3
 have hX0 : Hid (Bx gt S4 w4 _ _):=hX0n
 have hX1 : Hid (Bx gt S4 w4 _ _):=hX1n
 clear hX0n hX1n
 have hm4 : Hid (Mem C gt cap base S4 q4 w4):=m4
 have hi4 : Hid (Is3 _ q4 z4 l):=i4
 clear i4 m4 s4 hm3
 clear a0 a1 a2 a3 a4 a5 a6 a7 a8 a9 a10 a11 af
 have hR : Hid (Row S4 w4 base w.heap.size ⟨some ⟨g,0,none⟩,rc⟩ l):=⟨R0.own,R0.free,fun k hk => Nat.le_trans hsz (R0.new k hk),R0.addr⟩
 clear R0
 have hlt2 : w.heap.size + 1 < w4.heap.size:=hX1.out.lt
 unfold pv
 go_upto_region 4 with fail
 refine zm (R:=fun W => Bx gt S4 W (w.heap.size) _ ∧ Bx gt S4 W (w.heap.size + 1) _ ∧ Bx gt S4 W (w4.heap.size) _ ∧ Row S4 W base w.heap.size ⟨some ⟨g,0,none⟩,rc⟩ l ∧ Mem C gt cap base S4 q4 W ∧ SB w.heap.size S w S4 W) ⟨(hX0.out.alloc _),(hX1.out.alloc _),(Bx.new hm4.out _),(hR.out.alloc _),(hm4.out.alloc _),(ht4.out.alloc _)⟩ ?_
 clear hX0 hX1 ht4 hm4
 clear hR
 rintro w5 ⟨X0,X1,X2,R0,m5,t5⟩
 have hR : Hid (Row S4 w5 base w.heap.size ⟨some ⟨g,0,none⟩,rc⟩ l):=R0
 clear R0
 have hX0 : Hid (Bx gt S4 w5 _ _):=X0
 have hX1 : Hid (Bx gt S4 w5 _ _):=X1
 have hX2 : Hid (Bx gt S4 w5 _ _):=X2
 have hm5 : Hid (Mem C gt cap base S4 q4 w5):=m5
 have ht5 : Hid (SB w.heap.size S w S4 w5):=t5
 clear m5 t5 X0 X1 X2
 cases hA : anyB l with
 | true =>
  skip
  obtain ⟨c0,c1,c2,c3,c4,c5,c6,c7,c8,c9,c10,c11,cf⟩:=hX2.out.box
  go_wp2_with fail
  refine (zbf C gt cap base _ S4 q4 z4 0 zbt _ hi4.out.fst hm5.out).mono ?_
  rintro e w6 ⟨S6,q6,z6,rfl,i6,m6,s6⟩
  have hX0n : Hid (Bx gt S6 w6 _ _):=hX0.out.stp s6
  have hX1n : Hid (Bx gt S6 w6 _ _):=hX1.out.stp s6
  have hX2n : Hid (Bx gt S6 w6 _ _):=hX2.out.stp s6
  have ht6 : Hid (SB w.heap.size S w S6 w6):=ht5.out.step s6
  have hRn : Hid (Row S6 w6 base w.heap.size ⟨some ⟨g,0,none⟩,rc⟩ l):=hR.out.stp s6
  clear hR
  have hR : Hid (Row S6 w6 base w.heap.size ⟨some ⟨g,0,none⟩,rc⟩ l):=hRn
  clear hRn
  clear hX0 hX1 hX2 ht5
  have hX0 : Hid (Bx gt S6 w6 _ _):=hX0n
  have hX1 : Hid (Bx gt S6 w6 _ _):=hX1n
  have hX2 : Hid (Bx gt S6 w6 _ _):=hX2n
  clear hX0n hX1n hX2n
  have hm6 : Hid (Mem C gt cap base S6 q6 w6):=m6
  have hi6 : Hid (Is _ q6 z6):=i6
  clear i6 m6 s6 hm5
  clear c0 c1 c2 c3 c4 c5 c6 c7 c8 c9 c10 c11 cf
  go_wp2_with fail
  refine (zgd C gt cap base _ S6 q6 z6 0 _ hi6.out hm6.out).mono ?_
  rintro e w7 ⟨S7,q7,z7,n7,rfl,i7,m7,s7⟩
  have hX0n : Hid (Bx gt S7 w7 _ _):=hX0.out.stp s7
  have hX1n : Hid (Bx gt S7 w7 _ _):=hX1.out.stp s7
  have hX2n : Hid (Bx gt S7 w7 _ _):=hX2.out.stp s7
  have ht7 : Hid (SB w.heap.size S w S7 w7):=ht6.out.step s7
  have hRn : Hid (Row S7 w7 base w.heap.size ⟨some ⟨g,0,none⟩,rc⟩ l):=hR.out.stp s7
  clear hR
  have hR : Hid (Row S7 w7 base w.heap.size ⟨some ⟨g,0,none⟩,rc⟩ l):=hRn
  clear hRn
  clear hX0 hX1 hX2 ht6
  have hX0 : Hid (Bx gt S7 w7 _ _):=hX0n
  have hX1 : Hid (Bx gt S7 w7 _ _):=hX1n
  have hX2 : Hid (Bx gt S7 w7 _ _):=hX2n
  clear hX0n hX1n hX2n
  have hm7 : Hid (Mem C gt cap base S7 q7 w7):=m7
  have hi7 : Hid (Is2 _ q7 z7 n7):=i7
  clear i7 m7 s7 hm6
  have hlt3 : w.heap.size + 1 < w7.heap.size:=hX1.out.lt
  have hlt3_2 : w4.heap.size < w7.heap.size:=hX2.out.lt
  unfold pv
  go_upto_region 12 with fail
  refine zm (R:=fun W => Bx gt S7 W (w.heap.size) _ ∧ Bx gt S7 W (w.heap.size + 1) _ ∧ Bx gt S7 W (w4.heap.size) _ ∧ Bx gt S7 W (w7.heap.size) _ ∧ Row S7 W base w.heap.size ⟨some ⟨g,0,none⟩,rc⟩ l ∧ Mem C gt cap base S7 q7 W ∧ SB w.heap.size S w S7 W) ⟨(hX0.out.alloc _),(hX1.out.alloc _),(hX2.out.alloc _),(Bx.new hm7.out _),(hR.out.alloc _),(hm7.out.alloc _),(ht7.out.alloc _)⟩ ?_
  clear hX0 hX1 hX2 ht7 hm7
  clear hR
  rintro w8 ⟨X0,X1,X2,X3,R0,m8,t8⟩
  have hR : Hid (Row S7 w8 base w.heap.size ⟨some ⟨g,0,none⟩,rc⟩ l):=R0
  clear R0
  have hX0 : Hid (Bx gt S7 w8 _ _):=X0
  have hX1 : Hid (Bx gt S7 w8 _ _):=X1
  have hX2 : Hid (Bx gt S7 w8 _ _):=X2
  have hX3 : Hid (Bx gt S7 w8 _ _):=X3
  have hm8 : Hid (Mem C gt cap base S7 q7 w8):=m8
  have ht8 : Hid (SB w.heap.size S w S7 w8):=t8
  clear m8 t8 X0 X1 X2 X3
  obtain ⟨d0,d1,d2,d3,d4,d5,d6,d7,d8,d9,d10,d11,df⟩:=hX3.out.box
  go_wp2_with fail
  refine (zp C gt cap base _ S7 q7 z7 0 cSemi _ hi7.out.fst hm8.out).mono ?_
  rintro e w9 ⟨S9,q9,z9,rfl,i9,m9,s9⟩
  have hX0n : Hid (Bx gt S9 w9 _ _):=hX0.out.stp s9
  have hX1n : Hid (Bx gt S9 w9 _ _):=hX1.out.stp s9
  have hX2n : Hid (Bx gt S9 w9 _ _):=hX2.out.stp s9
  have hX3n : Hid (Bx gt S9 w9 _ _):=hX3.out.stp s9
  have ht9 : Hid (SB w.heap.size S w S9 w9):=ht8.out.step s9
  have hRn : Hid (Row S9 w9 base w.heap.size ⟨some ⟨g,0,none⟩,rc⟩ l):=hR.out.stp s9
  clear hR
  have hR : Hid (Row S9 w9 base w.heap.size ⟨some ⟨g,0,none⟩,rc⟩ l):=hRn
  clear hRn
  clear hX0 hX1 hX2 hX3 ht8
  have hX0 : Hid (Bx gt S9 w9 _ _):=hX0n
  have hX1 : Hid (Bx gt S9 w9 _ _):=hX1n
  have hX2 : Hid (Bx gt S9 w9 _ _):=hX2n
  have hX3 : Hid (Bx gt S9 w9 _ _):=hX3n
  clear hX0n hX1n hX2n hX3n
  have hm9 : Hid (Mem C gt cap base S9 q9 w9):=m9
  have hi9 : Hid (Is _ q9 z9):=i9
  clear i9 m9 s9 hm8
  clear d0 d1 d2 d3 d4 d5 d6 d7 d8 d9 d10 d11 df
  obtain ⟨a0,a1,a2,a3,a4,a5,a6,a7,a8,a9,a10,a11,af⟩:=hX0.out.box
  unfold pv
  go_upto_region 13 with fail
  refine zm (R:=fun W => Bx gt S9 W (w.heap.size) _ ∧ Bx gt S9 W (w.heap.size + 1) _ ∧ Bx gt S9 W (w4.heap.size) _ ∧ Bx gt S9 W (w7.heap.size) _ ∧ Row S9 W base w.heap.size ⟨some ⟨g,0,none⟩,rc⟩ l ∧ Mem C gt cap base S9 q9 W ∧ SB w.heap.size S w S9 W) ⟨(hX0.out.put _ _ _ _ _ _ _ _ _ _ _ _),(hX1.out.other (by omega) _ _ _ _ _ _ _ _ _ _ _ _),(hX2.out.other (by omega) _ _ _ _ _ _ _ _ _ _ _ _),(hX3.out.other (by omega) _ _ _ _ _ _ _ _ _ _ _ _),(hR.out.put hX0.out _ _ _ _ _ _ _ _ _ _ _ _),(hm9.out.put hX0.out _ _ _ _ _ _ _ _ _ _ _ _),(ht9.out.put (by omega) _ _ _ _ _ _ _ _ _ _ _ _)⟩ ?_
  clear a0 a1 a2 a3 a4 a5 a6 a7 a8 a9 a10 a11 af
  clear hX0 hX1 hX2 hX3 ht9 hm9
  clear hR
  rintro w10 ⟨X0,X1,X2,X3,R0,m10,t10⟩
  have hR : Hid (Row S9 w10 base w.heap.size ⟨some ⟨g,0,none⟩,rc⟩ l):=R0
  clear R0
  have hX0 : Hid (Bx gt S9 w10 _ _):=X0
  have hX1 : Hid (Bx gt S9 w10 _ _):=X1
  have hX2 : Hid (Bx gt S9 w10 _ _):=X2
  have hX3 : Hid (Bx gt S9 w10 _ _):=X3
  have hm10 : Hid (Mem C gt cap base S9 q9 w10):=m10
  have ht10 : Hid (SB w.heap.size S w S9 w10):=t10
  clear m10 t10 X0 X1 X2 X3
  have HEQ : Hid (_ = zbi C q):=(zog (G:=fun b e => zt C (zbl b e)) hi4.out hi7.out).trans ((ztp hi4.out (.inl hA)).trans HV1.out.symm)
  go_wp2
  go_loopg [9] l.length (fun k i wr => ∃ (j : Nat) (x' : PR) (S' : Sv) (q' : PS) (z' : Int),j ≤ l.length ∧ i = .int .i64 j ∧ Is x' q' z' ∧ (z' < 0 → 1 ≤ q'.pos) ∧ zbc (fun e => zt C (zbl n7 e)) (l.drop j) x' = zbi C q ∧ l.length - j = k ∧ Mem C gt cap base S' q' wr ∧ SB w.heap.size S w S' wr ∧ Bx gt S' wr w.heap.size #[.slice (some ⟨gt,0,none⟩) C.ts.length cap,.int .i64 q'.pos,.int .i64 C.fin,.bool C.scr,.slice S'.rq.a q'.rq.length S'.rq.cap,.slice S'.im.a q'.im.length S'.im.cap,.slice S'.ep.a q'.ep.length S'.ep.cap,.slice S'.st.a q'.st.length S'.st.cap,.slice S'.ex.a q'.ex.length S'.ex.cap,.slice S'.la.a q'.la.length S'.la.cap,.int .i64 z',.int .i64 0] ∧ Bx gt S' wr (w.heap.size + 1) #[.slice none 0 0,.int .i64 0,.int .i64 0,.bool false,.slice none 0 0,.slice none 0 0,.slice none 0 0,.slice none 0 0,.slice none 0 0,.slice none 0 0,.int .i64 0,.int .i64 0] ∧ Row S' wr base w.heap.size ⟨some ⟨g,0,none⟩,rc⟩ l)
  case atStart => exact ⟨0,_,S9,q9,z9,Nat.zero_le _,rfl,hi9.out,zde hi9.out,HEQ.out,rfl,hm10.out,ht10.out,hX0.out,hX1.out,hR.out⟩
  case round =>
   obtain ⟨j,x9,S9,q9,z9,hj,rfl,i9,p9,e9,g9,m9,t9,X0,X1,R0⟩:=hrel
   clear hX0 hX1 hX2 hX3 hR hm10 ht10
   have hX0 : Hid (Bx gt S9 wr _ _):=X0
   have hX1 : Hid (Bx gt S9 wr _ _):=X1
   have hm9 : Hid (Mem C gt cap base S9 q9 wr):=m9
   have ht9 : Hid (SB w.heap.size S w S9 wr):=t9
   have hi9 : Hid (Is x9 q9 z9):=i9
   have hp9 : Hid (z9 < 0 → 1 ≤ q9.pos):=p9
   have he9 : Hid (zbc (fun e => zt C (zbl n7 e)) (l.drop j) x9 = zbi C q):=e9
   have hg9 : Hid (l.length - j = gk):=g9
   have hR : Hid (Row S9 wr base w.heap.size ⟨some ⟨g,0,none⟩,rc⟩ l):=R0
   clear X0 X1 i9 m9 t9 e9 g9 R0 p9
   by_cases hlt : j < l.length
   ·skip
    obtain ⟨c1,c2⟩:=hR.out.cells (g:=g) rfl hlt
    have hgl:=hR.out.own.lt (g:=g) rfl
    have HX : Hid (∀ e,e = l[j] → zbc (fun e => zt C (zbl n7 e)) (l.drop (j + 1)) (bd x9 (zt C (zbl n7 e))) = zbi C q):=fun e he => by rw [he,← he9.out]; exact (zjn (fun e => zt C (zbl n7 e)) l x9 hlt).symm
    generalize hel : l[j] = el at c1 c2
    have HEL : Hid (el = l[j]):=hel.symm
    clear hel
    obtain ⟨a0,a1,a2,a3,a4,a5,a6,a7,a8,a9,a10,a11,af⟩:=hX0.out.box
    go_upto_region 16 with fail
    go_region_law (first | (go_simp; go_wp2_with (go_at_call 145; refine (zgt C gt cap base x9 S9 q9 z9 0 (zbl n7 el) _ hi9.out hm9.out.drew hp9.out).mono ?_; rintro e w10 ⟨S10,q10,z10,rfl,i10,m10,s10⟩; obtain ⟨d0,d1,d2,d3,d4,d5,d6,d7,d8,d9,d10,d11,df⟩:=(hX0.out.stp s10.undrew).box; unfold pv)))
    all_goals
     clear a0 a1 a2 a3 a4 a5 a6 a7 a8 a9 a10 a11 af d0 d1 d2 d3 d4 d5 d6 d7 d8 d9 d10 d11 df
     have hi10 : Hid (Is _ q10 z10):=i10
     have hm10 : Hid (Mem C gt cap base S10 q10 w10):=m10
     have hs10 : Hid (Stp S9 wr S10 w10):=s10.undrew
     clear i10 m10 s10
     go_wp2
     go_roundg (gk - 1)
     case rel => exact ⟨j + 1,_,S10,q10,z10,by omega,by go_num,hi10.out,zoh hp9.out hi9.out hi10.out,HX.out el HEL.out,by have:=hg9.out; omega,hm10.out.put (hX0.out.stp hs10.out) _ _ _ _ _ _ _ _ _ _ _ _,(ht9.out.step hs10.out).put (by omega) _ _ _ _ _ _ _ _ _ _ _ _,(hX0.out.stp hs10.out).put _ _ _ _ _ _ _ _ _ _ _ _,(hX1.out.stp hs10.out).other (by omega) _ _ _ _ _ _ _ _ _ _ _ _,(hR.out.stp hs10.out).put (hX0.out.stp hs10.out) _ _ _ _ _ _ _ _ _ _ _ _⟩
     case measure => have:=hg9.out; omega
   ·skip
    obtain ⟨a0,a1,a2,a3,a4,a5,a6,a7,a8,a9,a10,a11,af⟩:=hX0.out.box
    obtain ⟨b0,b1,b2,b3,b4,b5,b6,b7,b8,b9,b10,b11,bf⟩:=hX1.out.box
    go_wp2
    refine bodyPost_ret (results_cell_row rfl _ _ (w.heap.size + 1) 81 _ (0,0) _ rfl ((hX1.out.put _ _ _ _ _ _ _ _ _ _ _ _)).heap Tryz.underlying81 rfl (by kernel_rfl)) rfl ?_
    exact zw rfl (show Is (zbi C q) q9 z9 from by rw [← he9.out,List.drop_eq_nil_of_le (by omega)]; exact hi9.out) (hm9.out.put hX1.out _ _ _ _ _ _ _ _ _ _ _ _) (ht9.out.put (by omega) _ _ _ _ _ _ _ _ _ _ _ _)
 | false =>
  cases hF : (decide (z4 < 0) && isT C q4.pos 1 zbt) with
  | true =>
   obtain ⟨c0,c1,c2,c3,c4,c5,c6,c7,c8,c9,c10,c11,cf⟩:=hX2.out.box
   go_wp2_with fail
   refine (zf C gt cap base S4 q4 z4 0 1 zbt _ hm5.out.tok hfew (by decide)).mono ?_
   rintro e w6 ⟨rfl,hb6⟩
   rw [hF]
   have hX0n : Hid (Bx gt S4 w6 _ _):=hX0.out.below hb6
   have hX1n : Hid (Bx gt S4 w6 _ _):=hX1.out.below hb6
   have hX2n : Hid (Bx gt S4 w6 _ _):=hX2.out.below hb6
   have ht6 : Hid (SB w.heap.size S w S4 w6):=ht5.out.below hb6
   have hm6 : Hid (Mem C gt cap base S4 q4 w6):=hm5.out.later hb6
   have hRn : Hid (Row S4 w6 base w.heap.size ⟨some ⟨g,0,none⟩,rc⟩ l):=hR.out.below hb6
   clear hR
   have hR : Hid (Row S4 w6 base w.heap.size ⟨some ⟨g,0,none⟩,rc⟩ l):=hRn
   clear hRn
   clear hb6 hX0 hX1 hX2 ht5 hm5
   have hX0 : Hid (Bx gt S4 w6 _ _):=hX0n
   have hX1 : Hid (Bx gt S4 w6 _ _):=hX1n
   have hX2 : Hid (Bx gt S4 w6 _ _):=hX2n
   clear hX0n hX1n hX2n
   clear c0 c1 c2 c3 c4 c5 c6 c7 c8 c9 c10 c11 cf
   obtain ⟨c0,c1,c2,c3,c4,c5,c6,c7,c8,c9,c10,c11,cf⟩:=hX2.out.box
   go_wp2_with fail
   refine (zbf C gt cap base _ S4 q4 z4 0 zbt _ hi4.out.fst hm6.out).mono ?_
   rintro e w7 ⟨S7,q7,z7,rfl,i7,m7,s7⟩
   have hX0n : Hid (Bx gt S7 w7 _ _):=hX0.out.stp s7
   have hX1n : Hid (Bx gt S7 w7 _ _):=hX1.out.stp s7
   have hX2n : Hid (Bx gt S7 w7 _ _):=hX2.out.stp s7
   have ht7 : Hid (SB w.heap.size S w S7 w7):=ht6.out.step s7
   have hRn : Hid (Row S7 w7 base w.heap.size ⟨some ⟨g,0,none⟩,rc⟩ l):=hR.out.stp s7
   clear hR
   have hR : Hid (Row S7 w7 base w.heap.size ⟨some ⟨g,0,none⟩,rc⟩ l):=hRn
   clear hRn
   clear hX0 hX1 hX2 ht6
   have hX0 : Hid (Bx gt S7 w7 _ _):=hX0n
   have hX1 : Hid (Bx gt S7 w7 _ _):=hX1n
   have hX2 : Hid (Bx gt S7 w7 _ _):=hX2n
   clear hX0n hX1n hX2n
   have hm7 : Hid (Mem C gt cap base S7 q7 w7):=m7
   have hi7 : Hid (Is _ q7 z7):=i7
   clear i7 m7 s7 hm6
   clear c0 c1 c2 c3 c4 c5 c6 c7 c8 c9 c10 c11 cf
   go_wp2_with fail
   refine (zgd C gt cap base _ S7 q7 z7 0 _ hi7.out hm7.out).mono ?_
   rintro e w8 ⟨S8,q8,z8,n8,rfl,i8,m8,s8⟩
   have hX0n : Hid (Bx gt S8 w8 _ _):=hX0.out.stp s8
   have hX1n : Hid (Bx gt S8 w8 _ _):=hX1.out.stp s8
   have hX2n : Hid (Bx gt S8 w8 _ _):=hX2.out.stp s8
   have ht8 : Hid (SB w.heap.size S w S8 w8):=ht7.out.step s8
   have hRn : Hid (Row S8 w8 base w.heap.size ⟨some ⟨g,0,none⟩,rc⟩ l):=hR.out.stp s8
   clear hR
   have hR : Hid (Row S8 w8 base w.heap.size ⟨some ⟨g,0,none⟩,rc⟩ l):=hRn
   clear hRn
   clear hX0 hX1 hX2 ht7
   have hX0 : Hid (Bx gt S8 w8 _ _):=hX0n
   have hX1 : Hid (Bx gt S8 w8 _ _):=hX1n
   have hX2 : Hid (Bx gt S8 w8 _ _):=hX2n
   clear hX0n hX1n hX2n
   have hm8 : Hid (Mem C gt cap base S8 q8 w8):=m8
   have hi8 : Hid (Is2 _ q8 z8 n8):=i8
   clear i8 m8 s8 hm7
   have hlt3 : w.heap.size + 1 < w8.heap.size:=hX1.out.lt
   have hlt3_2 : w4.heap.size < w8.heap.size:=hX2.out.lt
   unfold pv
   go_upto_region 12 with fail
   refine zm (R:=fun W => Bx gt S8 W (w.heap.size) _ ∧ Bx gt S8 W (w.heap.size + 1) _ ∧ Bx gt S8 W (w4.heap.size) _ ∧ Bx gt S8 W (w8.heap.size) _ ∧ Row S8 W base w.heap.size ⟨some ⟨g,0,none⟩,rc⟩ l ∧ Mem C gt cap base S8 q8 W ∧ SB w.heap.size S w S8 W) ⟨(hX0.out.alloc _),(hX1.out.alloc _),(hX2.out.alloc _),(Bx.new hm8.out _),(hR.out.alloc _),(hm8.out.alloc _),(ht8.out.alloc _)⟩ ?_
   clear hX0 hX1 hX2 ht8 hm8
   clear hR
   rintro w9 ⟨X0,X1,X2,X3,R0,m9,t9⟩
   have hR : Hid (Row S8 w9 base w.heap.size ⟨some ⟨g,0,none⟩,rc⟩ l):=R0
   clear R0
   have hX0 : Hid (Bx gt S8 w9 _ _):=X0
   have hX1 : Hid (Bx gt S8 w9 _ _):=X1
   have hX2 : Hid (Bx gt S8 w9 _ _):=X2
   have hX3 : Hid (Bx gt S8 w9 _ _):=X3
   have hm9 : Hid (Mem C gt cap base S8 q8 w9):=m9
   have ht9 : Hid (SB w.heap.size S w S8 w9):=t9
   clear m9 t9 X0 X1 X2 X3
   obtain ⟨d0,d1,d2,d3,d4,d5,d6,d7,d8,d9,d10,d11,df⟩:=hX3.out.box
   go_wp2_with fail
   refine (zp C gt cap base _ S8 q8 z8 0 cSemi _ hi8.out.fst hm9.out).mono ?_
   rintro e w10 ⟨S10,q10,z10,rfl,i10,m10,s10⟩
   have hX0n : Hid (Bx gt S10 w10 _ _):=hX0.out.stp s10
   have hX1n : Hid (Bx gt S10 w10 _ _):=hX1.out.stp s10
   have hX2n : Hid (Bx gt S10 w10 _ _):=hX2.out.stp s10
   have hX3n : Hid (Bx gt S10 w10 _ _):=hX3.out.stp s10
   have ht10 : Hid (SB w.heap.size S w S10 w10):=ht9.out.step s10
   have hRn : Hid (Row S10 w10 base w.heap.size ⟨some ⟨g,0,none⟩,rc⟩ l):=hR.out.stp s10
   clear hR
   have hR : Hid (Row S10 w10 base w.heap.size ⟨some ⟨g,0,none⟩,rc⟩ l):=hRn
   clear hRn
   clear hX0 hX1 hX2 hX3 ht9
   have hX0 : Hid (Bx gt S10 w10 _ _):=hX0n
   have hX1 : Hid (Bx gt S10 w10 _ _):=hX1n
   have hX2 : Hid (Bx gt S10 w10 _ _):=hX2n
   have hX3 : Hid (Bx gt S10 w10 _ _):=hX3n
   clear hX0n hX1n hX2n hX3n
   have hm10 : Hid (Mem C gt cap base S10 q10 w10):=m10
   have hi10 : Hid (Is _ q10 z10):=i10
   clear i10 m10 s10 hm9
   clear d0 d1 d2 d3 d4 d5 d6 d7 d8 d9 d10 d11 df
   obtain ⟨a0,a1,a2,a3,a4,a5,a6,a7,a8,a9,a10,a11,af⟩:=hX0.out.box
   unfold pv
   go_upto_region 13 with fail
   refine zm (R:=fun W => Bx gt S10 W (w.heap.size) _ ∧ Bx gt S10 W (w.heap.size + 1) _ ∧ Bx gt S10 W (w4.heap.size) _ ∧ Bx gt S10 W (w8.heap.size) _ ∧ Row S10 W base w.heap.size ⟨some ⟨g,0,none⟩,rc⟩ l ∧ Mem C gt cap base S10 q10 W ∧ SB w.heap.size S w S10 W) ⟨(hX0.out.put _ _ _ _ _ _ _ _ _ _ _ _),(hX1.out.other (by omega) _ _ _ _ _ _ _ _ _ _ _ _),(hX2.out.other (by omega) _ _ _ _ _ _ _ _ _ _ _ _),(hX3.out.other (by omega) _ _ _ _ _ _ _ _ _ _ _ _),(hR.out.put hX0.out _ _ _ _ _ _ _ _ _ _ _ _),(hm10.out.put hX0.out _ _ _ _ _ _ _ _ _ _ _ _),(ht10.out.put (by omega) _ _ _ _ _ _ _ _ _ _ _ _)⟩ ?_
   clear a0 a1 a2 a3 a4 a5 a6 a7 a8 a9 a10 a11 af
   clear hX0 hX1 hX2 hX3 ht10 hm10
   clear hR
   rintro w11 ⟨X0,X1,X2,X3,R0,m11,t11⟩
   have hR : Hid (Row S10 w11 base w.heap.size ⟨some ⟨g,0,none⟩,rc⟩ l):=R0
   clear R0
   have hX0 : Hid (Bx gt S10 w11 _ _):=X0
   have hX1 : Hid (Bx gt S10 w11 _ _):=X1
   have hX2 : Hid (Bx gt S10 w11 _ _):=X2
   have hX3 : Hid (Bx gt S10 w11 _ _):=X3
   have hm11 : Hid (Mem C gt cap base S10 q10 w11):=m11
   have ht11 : Hid (SB w.heap.size S w S10 w11):=t11
   clear m11 t11 X0 X1 X2 X3
   have HEQ : Hid (_ = zbi C q):=(zog (G:=fun b e => zt C (zbl b e)) hi4.out hi8.out).trans ((ztp hi4.out (.inr hF)).trans HV1.out.symm)
   go_wp2
   go_loopg [9] l.length (fun k i wr => ∃ (j : Nat) (x' : PR) (S' : Sv) (q' : PS) (z' : Int),j ≤ l.length ∧ i = .int .i64 j ∧ Is x' q' z' ∧ (z' < 0 → 1 ≤ q'.pos) ∧ zbc (fun e => zt C (zbl n8 e)) (l.drop j) x' = zbi C q ∧ l.length - j = k ∧ Mem C gt cap base S' q' wr ∧ SB w.heap.size S w S' wr ∧ Bx gt S' wr w.heap.size #[.slice (some ⟨gt,0,none⟩) C.ts.length cap,.int .i64 q'.pos,.int .i64 C.fin,.bool C.scr,.slice S'.rq.a q'.rq.length S'.rq.cap,.slice S'.im.a q'.im.length S'.im.cap,.slice S'.ep.a q'.ep.length S'.ep.cap,.slice S'.st.a q'.st.length S'.st.cap,.slice S'.ex.a q'.ex.length S'.ex.cap,.slice S'.la.a q'.la.length S'.la.cap,.int .i64 z',.int .i64 0] ∧ Bx gt S' wr (w.heap.size + 1) #[.slice none 0 0,.int .i64 0,.int .i64 0,.bool false,.slice none 0 0,.slice none 0 0,.slice none 0 0,.slice none 0 0,.slice none 0 0,.slice none 0 0,.int .i64 0,.int .i64 0] ∧ Row S' wr base w.heap.size ⟨some ⟨g,0,none⟩,rc⟩ l)
   case atStart => exact ⟨0,_,S10,q10,z10,Nat.zero_le _,rfl,hi10.out,zde hi10.out,HEQ.out,rfl,hm11.out,ht11.out,hX0.out,hX1.out,hR.out⟩
   case round =>
    obtain ⟨j,x9,S9,q9,z9,hj,rfl,i9,p9,e9,g9,m9,t9,X0,X1,R0⟩:=hrel
    clear hX0 hX1 hX2 hX3 hR hm11 ht11
    have hX0 : Hid (Bx gt S9 wr _ _):=X0
    have hX1 : Hid (Bx gt S9 wr _ _):=X1
    have hm9 : Hid (Mem C gt cap base S9 q9 wr):=m9
    have ht9 : Hid (SB w.heap.size S w S9 wr):=t9
    have hi9 : Hid (Is x9 q9 z9):=i9
    have hp9 : Hid (z9 < 0 → 1 ≤ q9.pos):=p9
    have he9 : Hid (zbc (fun e => zt C (zbl n8 e)) (l.drop j) x9 = zbi C q):=e9
    have hg9 : Hid (l.length - j = gk):=g9
    have hR : Hid (Row S9 wr base w.heap.size ⟨some ⟨g,0,none⟩,rc⟩ l):=R0
    clear X0 X1 i9 m9 t9 e9 g9 R0 p9
    by_cases hlt : j < l.length
    ·skip
     obtain ⟨c1,c2⟩:=hR.out.cells (g:=g) rfl hlt
     have hgl:=hR.out.own.lt (g:=g) rfl
     have HX : Hid (∀ e,e = l[j] → zbc (fun e => zt C (zbl n8 e)) (l.drop (j + 1)) (bd x9 (zt C (zbl n8 e))) = zbi C q):=fun e he => by rw [he,← he9.out]; exact (zjn (fun e => zt C (zbl n8 e)) l x9 hlt).symm
     generalize hel : l[j] = el at c1 c2
     have HEL : Hid (el = l[j]):=hel.symm
     clear hel
     obtain ⟨a0,a1,a2,a3,a4,a5,a6,a7,a8,a9,a10,a11,af⟩:=hX0.out.box
     go_upto_region 16 with fail
     go_region_law (first | (go_simp; go_wp2_with (go_at_call 145; refine (zgt C gt cap base x9 S9 q9 z9 0 (zbl n8 el) _ hi9.out hm9.out.drew hp9.out).mono ?_; rintro e w10 ⟨S10,q10,z10,rfl,i10,m10,s10⟩; obtain ⟨d0,d1,d2,d3,d4,d5,d6,d7,d8,d9,d10,d11,df⟩:=(hX0.out.stp s10.undrew).box; unfold pv)))
     all_goals
      clear a0 a1 a2 a3 a4 a5 a6 a7 a8 a9 a10 a11 af d0 d1 d2 d3 d4 d5 d6 d7 d8 d9 d10 d11 df
      have hi10 : Hid (Is _ q10 z10):=i10
      have hm10 : Hid (Mem C gt cap base S10 q10 w10):=m10
      have hs10 : Hid (Stp S9 wr S10 w10):=s10.undrew
      clear i10 m10 s10
      go_wp2
      go_roundg (gk - 1)
      case rel => exact ⟨j + 1,_,S10,q10,z10,by omega,by go_num,hi10.out,zoh hp9.out hi9.out hi10.out,HX.out el HEL.out,by have:=hg9.out; omega,hm10.out.put (hX0.out.stp hs10.out) _ _ _ _ _ _ _ _ _ _ _ _,(ht9.out.step hs10.out).put (by omega) _ _ _ _ _ _ _ _ _ _ _ _,(hX0.out.stp hs10.out).put _ _ _ _ _ _ _ _ _ _ _ _,(hX1.out.stp hs10.out).other (by omega) _ _ _ _ _ _ _ _ _ _ _ _,(hR.out.stp hs10.out).put (hX0.out.stp hs10.out) _ _ _ _ _ _ _ _ _ _ _ _⟩
      case measure => have:=hg9.out; omega
    ·skip
     obtain ⟨a0,a1,a2,a3,a4,a5,a6,a7,a8,a9,a10,a11,af⟩:=hX0.out.box
     obtain ⟨b0,b1,b2,b3,b4,b5,b6,b7,b8,b9,b10,b11,bf⟩:=hX1.out.box
     go_wp2
     refine bodyPost_ret (results_cell_row rfl _ _ (w.heap.size + 1) 81 _ (0,0) _ rfl ((hX1.out.put _ _ _ _ _ _ _ _ _ _ _ _)).heap Tryz.underlying81 rfl (by kernel_rfl)) rfl ?_
     exact zw rfl (show Is (zbi C q) q9 z9 from by rw [← he9.out,List.drop_eq_nil_of_le (by omega)]; exact hi9.out) (hm9.out.put hX1.out _ _ _ _ _ _ _ _ _ _ _ _) (ht9.out.put (by omega) _ _ _ _ _ _ _ _ _ _ _ _)
  | false =>
   obtain ⟨c0,c1,c2,c3,c4,c5,c6,c7,c8,c9,c10,c11,cf⟩:=hX2.out.box
   go_wp2_with fail
   refine (zf C gt cap base S4 q4 z4 0 1 zbt _ hm5.out.tok hfew (by decide)).mono ?_
   rintro e w6 ⟨rfl,hb6⟩
   rw [hF]
   have hX0n : Hid (Bx gt S4 w6 _ _):=hX0.out.below hb6
   have hX1n : Hid (Bx gt S4 w6 _ _):=hX1.out.below hb6
   have hX2n : Hid (Bx gt S4 w6 _ _):=hX2.out.below hb6
   have ht6 : Hid (SB w.heap.size S w S4 w6):=ht5.out.below hb6
   have hm6 : Hid (Mem C gt cap base S4 q4 w6):=hm5.out.later hb6
   have hRn : Hid (Row S4 w6 base w.heap.size ⟨some ⟨g,0,none⟩,rc⟩ l):=hR.out.below hb6
   clear hR
   have hR : Hid (Row S4 w6 base w.heap.size ⟨some ⟨g,0,none⟩,rc⟩ l):=hRn
   clear hRn
   clear hb6 hX0 hX1 hX2 ht5 hm5
   have hX0 : Hid (Bx gt S4 w6 _ _):=hX0n
   have hX1 : Hid (Bx gt S4 w6 _ _):=hX1n
   have hX2 : Hid (Bx gt S4 w6 _ _):=hX2n
   clear hX0n hX1n hX2n
   clear c0 c1 c2 c3 c4 c5 c6 c7 c8 c9 c10 c11 cf
   obtain ⟨c0,c1,c2,c3,c4,c5,c6,c7,c8,c9,c10,c11,cf⟩:=hX2.out.box
   go_wp2_with fail
   refine (zp C gt cap base _ S4 q4 z4 0 cSemi _ hi4.out.fst hm6.out).mono ?_
   rintro e w7 ⟨S7,q7,z7,rfl,i7,m7,s7⟩
   have hX0n : Hid (Bx gt S7 w7 _ _):=hX0.out.stp s7
   have hX1n : Hid (Bx gt S7 w7 _ _):=hX1.out.stp s7
   have hX2n : Hid (Bx gt S7 w7 _ _):=hX2.out.stp s7
   have ht7 : Hid (SB w.heap.size S w S7 w7):=ht6.out.step s7
   have hRn : Hid (Row S7 w7 base w.heap.size ⟨some ⟨g,0,none⟩,rc⟩ l):=hR.out.stp s7
   clear hR
   have hR : Hid (Row S7 w7 base w.heap.size ⟨some ⟨g,0,none⟩,rc⟩ l):=hRn
   clear hRn
   clear hX0 hX1 hX2 ht6
   have hX0 : Hid (Bx gt S7 w7 _ _):=hX0n
   have hX1 : Hid (Bx gt S7 w7 _ _):=hX1n
   have hX2 : Hid (Bx gt S7 w7 _ _):=hX2n
   clear hX0n hX1n hX2n
   have hm7 : Hid (Mem C gt cap base S7 q7 w7):=m7
   have hi7 : Hid (Is _ q7 z7):=i7
   clear i7 m7 s7 hm6
   clear c0 c1 c2 c3 c4 c5 c6 c7 c8 c9 c10 c11 cf
   obtain ⟨a0,a1,a2,a3,a4,a5,a6,a7,a8,a9,a10,a11,af⟩:=hX0.out.box
   unfold pv
   go_upto_region 6 with fail
   refine zm (R:=fun W => Bx gt S7 W (w.heap.size) _ ∧ Bx gt S7 W (w.heap.size + 1) _ ∧ Bx gt S7 W (w4.heap.size) _ ∧ Row S7 W base w.heap.size ⟨some ⟨g,0,none⟩,rc⟩ l ∧ Mem C gt cap base S7 q7 W ∧ SB w.heap.size S w S7 W) ⟨(hX0.out.put _ _ _ _ _ _ _ _ _ _ _ _),(hX1.out.other (by omega) _ _ _ _ _ _ _ _ _ _ _ _),(hX2.out.other (by omega) _ _ _ _ _ _ _ _ _ _ _ _),(hR.out.put hX0.out _ _ _ _ _ _ _ _ _ _ _ _),(hm7.out.put hX0.out _ _ _ _ _ _ _ _ _ _ _ _),(ht7.out.put (by omega) _ _ _ _ _ _ _ _ _ _ _ _)⟩ ?_
   clear a0 a1 a2 a3 a4 a5 a6 a7 a8 a9 a10 a11 af
   clear hX0 hX1 hX2 ht7 hm7
   clear hR
   rintro w8 ⟨X0,X1,X2,R0,m8,t8⟩
   have hR : Hid (Row S7 w8 base w.heap.size ⟨some ⟨g,0,none⟩,rc⟩ l):=R0
   clear R0
   have hX0 : Hid (Bx gt S7 w8 _ _):=X0
   have hX1 : Hid (Bx gt S7 w8 _ _):=X1
   have hX2 : Hid (Bx gt S7 w8 _ _):=X2
   have hm8 : Hid (Mem C gt cap base S7 q7 w8):=m8
   have ht8 : Hid (SB w.heap.size S w S7 w8):=t8
   clear m8 t8 X0 X1 X2
   have HEQ : Hid (_ = zbi C q):=(zbcf hi4.out hA hF).trans HV1.out.symm
   go_wp2
   go_loopg [6] l.length (fun k i wr => ∃ (j : Nat) (x' : PR) (S' : Sv) (q' : PS) (z' : Int),j ≤ l.length ∧ i = .int .i64 j ∧ Is x' q' z' ∧ (z' < 0 → 1 ≤ q'.pos) ∧ zbc (fun e => zt C (zu e)) (l.drop j) x' = zbi C q ∧ l.length - j = k ∧ Mem C gt cap base S' q' wr ∧ SB w.heap.size S w S' wr ∧ Bx gt S' wr w.heap.size #[.slice (some ⟨gt,0,none⟩) C.ts.length cap,.int .i64 q'.pos,.int .i64 C.fin,.bool C.scr,.slice S'.rq.a q'.rq.length S'.rq.cap,.slice S'.im.a q'.im.length S'.im.cap,.slice S'.ep.a q'.ep.length S'.ep.cap,.slice S'.st.a q'.st.length S'.st.cap,.slice S'.ex.a q'.ex.length S'.ex.cap,.slice S'.la.a q'.la.length S'.la.cap,.int .i64 z',.int .i64 0] ∧ Bx gt S' wr (w.heap.size + 1) #[.slice none 0 0,.int .i64 0,.int .i64 0,.bool false,.slice none 0 0,.slice none 0 0,.slice none 0 0,.slice none 0 0,.slice none 0 0,.slice none 0 0,.int .i64 0,.int .i64 0] ∧ Row S' wr base w.heap.size ⟨some ⟨g,0,none⟩,rc⟩ l)
   case atStart => exact ⟨0,_,S7,q7,z7,Nat.zero_le _,rfl,hi7.out,zde hi7.out,HEQ.out,rfl,hm8.out,ht8.out,hX0.out,hX1.out,hR.out⟩
   case round =>
    obtain ⟨j,x9,S9,q9,z9,hj,rfl,i9,p9,e9,g9,m9,t9,X0,X1,R0⟩:=hrel
    clear hX0 hX1 hX2 hR hm8 ht8
    have hX0 : Hid (Bx gt S9 wr _ _):=X0
    have hX1 : Hid (Bx gt S9 wr _ _):=X1
    have hm9 : Hid (Mem C gt cap base S9 q9 wr):=m9
    have ht9 : Hid (SB w.heap.size S w S9 wr):=t9
    have hi9 : Hid (Is x9 q9 z9):=i9
    have hp9 : Hid (z9 < 0 → 1 ≤ q9.pos):=p9
    have he9 : Hid (zbc (fun e => zt C (zu e)) (l.drop j) x9 = zbi C q):=e9
    have hg9 : Hid (l.length - j = gk):=g9
    have hR : Hid (Row S9 wr base w.heap.size ⟨some ⟨g,0,none⟩,rc⟩ l):=R0
    clear X0 X1 i9 m9 t9 e9 g9 R0 p9
    by_cases hlt : j < l.length
    ·skip
     obtain ⟨c1,c2⟩:=hR.out.cells (g:=g) rfl hlt
     have hgl:=hR.out.own.lt (g:=g) rfl
     have HX : Hid (∀ e,e = l[j] → zbc (fun e => zt C (zu e)) (l.drop (j + 1)) (bd x9 (zt C (zu e))) = zbi C q):=fun e he => by rw [he,← he9.out]; exact (zjn (fun e => zt C (zu e)) l x9 hlt).symm
     generalize hel : l[j] = el at c1 c2
     have HEL : Hid (el = l[j]):=hel.symm
     clear hel
     obtain ⟨a0,a1,a2,a3,a4,a5,a6,a7,a8,a9,a10,a11,af⟩:=hX0.out.box
     go_upto_region 9 with fail
     go_region_law (first | (go_simp; go_wp2_with (go_at_call 145; refine (zgt C gt cap base x9 S9 q9 z9 0 (zu el) _ hi9.out hm9.out.drew hp9.out).mono ?_; rintro e w10 ⟨S10,q10,z10,rfl,i10,m10,s10⟩; obtain ⟨d0,d1,d2,d3,d4,d5,d6,d7,d8,d9,d10,d11,df⟩:=(hX0.out.stp s10.undrew).box; unfold pv)))
     all_goals
      clear a0 a1 a2 a3 a4 a5 a6 a7 a8 a9 a10 a11 af d0 d1 d2 d3 d4 d5 d6 d7 d8 d9 d10 d11 df
      have hi10 : Hid (Is _ q10 z10):=i10
      have hm10 : Hid (Mem C gt cap base S10 q10 w10):=m10
      have hs10 : Hid (Stp S9 wr S10 w10):=s10.undrew
      clear i10 m10 s10
      go_wp2
      go_roundg (gk - 1)
      case rel => exact ⟨j + 1,_,S10,q10,z10,by omega,by go_num,hi10.out,zoh hp9.out hi9.out hi10.out,HX.out el HEL.out,by have:=hg9.out; omega,hm10.out.put (hX0.out.stp hs10.out) _ _ _ _ _ _ _ _ _ _ _ _,(ht9.out.step hs10.out).put (by omega) _ _ _ _ _ _ _ _ _ _ _ _,(hX0.out.stp hs10.out).put _ _ _ _ _ _ _ _ _ _ _ _,(hX1.out.stp hs10.out).other (by omega) _ _ _ _ _ _ _ _ _ _ _ _,(hR.out.stp hs10.out).put (hX0.out.stp hs10.out) _ _ _ _ _ _ _ _ _ _ _ _⟩
      case measure => have:=hg9.out; omega
    ·skip
     obtain ⟨a0,a1,a2,a3,a4,a5,a6,a7,a8,a9,a10,a11,af⟩:=hX0.out.box
     obtain ⟨b0,b1,b2,b3,b4,b5,b6,b7,b8,b9,b10,b11,bf⟩:=hX1.out.box
     go_wp2
     refine bodyPost_ret (results_cell_row rfl _ _ (w.heap.size + 1) 81 _ (0,0) _ rfl ((hX1.out.put _ _ _ _ _ _ _ _ _ _ _ _)).heap Tryz.underlying81 rfl (by kernel_rfl)) rfl ?_
     exact zw rfl (show Is (zbi C q) q9 z9 from by rw [← he9.out,List.drop_eq_nil_of_le (by omega)]; exact hi9.out) (hm9.out.put hX1.out _ _ _ _ _ _ _ _ _ _ _ _) (ht9.out.put (by omega) _ _ _ _ _ _ _ _ _ _ _ _)
end Go.Proofs.YtgchhhmfloemlaaGreat
namespace Go.Proofs.YtgchhhmfloemlaaGreat
open Go.RowKit Go.PlainAid

theorem zuj (C : Cx) (gt cap base : Nat) (S : Sv) (q : PS) (w : World) (hm : Mem C gt cap base S q w) (hw : isT C q.pos 1 zbn = true) :
  Calls Tryz.prog 95 #[pv C gt cap S q (-1) 0] w (Out C gt cap base (zct C q) 0 S w):=by
 cases h1 : isT C (q.pos + 1) 4 zbm with
 | true => exact zuf C gt cap base S q w hm hw h1
 | false =>
  cases h2 : isT C (q.pos + 1) 4 zbb with
  | true => exact zud C gt cap base S q w hm hw h1 h2
  | false =>
   cases h3 : zba C (q.pos + 1) false with
   | true => exact zsj C gt cap base S q w hm hw h1 h2 h3
   | false => exact zue C gt cap base S q w hm hw h1 h2 h3
theorem zuk (C : Cx) (gt cap base : Nat) (S : Sv) (q : PS) (w : World) (hm : Mem C gt cap base S q w) (hw : isT C q.pos 1 zbk = true) :
  Calls Tryz.prog 96 #[pv C gt cap S q (-1) 0] w (Out C gt cap base (zbi C q) 0 S w):=by
 cases h1 : isT C (q.pos + 1) 4 zbm with
 | true => exact zui C gt cap base S q w hm hw h1
 | false =>
  cases h2 : isT C (q.pos + 1) 4 zbb with
  | true => exact zug C gt cap base S q w hm hw h1 h2
  | false =>
   cases h3 : isT C (q.pos + 1) 1 sDefault with
   | true => exact zqn C gt cap base S q w hm hw h1 h2 h3
   | false =>
    cases h4 : isT C (q.pos + 1) 1 sLet with
    | true => exact zxg C gt cap base S q w hm hw h1 h2 h3 h4
    | false =>
     cases h5 : isT C (q.pos + 1) 1 zq with
     | true => exact zyr C gt cap base S q w hm hw h1 h2 h3 h4 h5
     | false => exact zuh C gt cap base S q w hm hw h1 h2 h3 h4 h5
theorem zxh {C : Cx} {x : PR} {n : ByteArray} : bd (bd (bd (bd x (tokP C 4 cEq)) (pE C .sum 0)) (tokP C 4 cSemi)) (zbz C 3 n) = bd x fun q => bd (bd (bd (bd (.ok q) (tokP C 4 cEq)) (pE C .sum 0)) (tokP C 4 cSemi)) (zbz C 3 n):=by cases x <;> rfl

set_option maxRecDepth 100000 in
set_option maxHeartbeats 6400000 in
theorem zqo (ts : List Tk) (fin : Nat) (gt cap base : Nat) (S : Sv) (q : PS) (w : World) (hm : Mem (Cx.mk ts fin true) gt cap base S q w) (h0 : isT (Cx.mk ts fin true) q.pos 1 sLet = true) :
  Calls Tryz.prog 46 #[pv (Cx.mk ts fin true) gt cap S q (-1) 0] w (Out (Cx.mk ts fin true) gt cap base (zbd (Cx.mk ts fin true) q) 0 S w):=by
 have HM : Hid (Mem (Cx.mk ts fin true) gt cap base S q w):=hm
 have htok:=hm.tok
 have hfew : (Cx.mk ts fin true).ts.length ≤ 4000:=hm.few
 clear hm
 have HV : Hid (zbd (Cx.mk ts fin true) q = fstP (letP (Cx.mk ts fin true) q)):=by show zbd (Cx.mk ts fin true) q = _; rw [zbd,h0]; rfl
 unfold pv
 go_enter Tryz.func46,Tryz.ntmps46
 go_wp2_with fail
 refine (zf (Cx.mk ts fin true) gt cap base S q (-1) 0 1 sLet _ (zg (zg htok _) _) hfew (by decide)).mono ?_
 rintro e w1 ⟨rfl,hb1⟩
 rw [h0]
 obtain ⟨X0,X1,m1,t1⟩:=HM.out.two hb1
 have hX0 : Hid (Bx gt S w1 _ _):=X0
 have hX1 : Hid (Bx gt S w1 _ _):=X1
 have hm1 : Hid (Mem (Cx.mk ts fin true) gt cap base S q w1):=m1
 have ht1 : Hid (SB w.heap.size S w S w1):=t1
 clear X0 X1 m1 t1 hb1
 clear htok
 obtain ⟨a0,a1,a2,a3,a4,a5,a6,a7,a8,a9,a10,a11,af⟩:=hX0.out.box
 go_wp2_with fail
 refine (zmz (Cx.mk ts fin true) gt cap base S q _ hm1.out).mono ?_
 rintro e w2 ⟨S2,q2,z2,n2,rfl,i2,m2,s2⟩
 have hX0n : Hid (Bx gt S2 w2 _ _):=hX0.out.stp s2
 have hX1n : Hid (Bx gt S2 w2 _ _):=hX1.out.stp s2
 have ht2 : Hid (SB w.heap.size S w S2 w2):=ht1.out.step s2
 clear hX0 hX1 ht1
 have hX0 : Hid (Bx gt S2 w2 _ _):=hX0n
 have hX1 : Hid (Bx gt S2 w2 _ _):=hX1n
 clear hX0n hX1n
 have hm2 : Hid (Mem (Cx.mk ts fin true) gt cap base S2 q2 w2):=m2
 have hi2 : Hid (Is2 _ q2 z2 n2):=i2
 clear i2 m2 s2 hm1
 clear a0 a1 a2 a3 a4 a5 a6 a7 a8 a9 a10 a11 af
 have hlt2 : w.heap.size + 1 < w2.heap.size:=hX1.out.lt
 unfold pv
 go_upto_region 7 with fail
 refine zm (R:=fun W => Bx gt S2 W (w.heap.size) _ ∧ Bx gt S2 W (w.heap.size + 1) _ ∧ Bx gt S2 W (w2.heap.size) _ ∧ Mem (Cx.mk ts fin true) gt cap base S2 q2 W ∧ SB w.heap.size S w S2 W) ⟨(hX0.out.alloc _),(hX1.out.alloc _),(Bx.new hm2.out _),(hm2.out.alloc _),(ht2.out.alloc _)⟩ ?_
 clear hX0 hX1 ht2 hm2
 rintro w3 ⟨X0,X1,X2,m3,t3⟩
 have hX0 : Hid (Bx gt S2 w3 _ _):=X0
 have hX1 : Hid (Bx gt S2 w3 _ _):=X1
 have hX2 : Hid (Bx gt S2 w3 _ _):=X2
 have hm3 : Hid (Mem (Cx.mk ts fin true) gt cap base S2 q2 w3):=m3
 have ht3 : Hid (SB w.heap.size S w S2 w3):=t3
 clear m3 t3 X0 X1 X2
 obtain ⟨b0,b1,b2,b3,b4,b5,b6,b7,b8,b9,b10,b11,bf⟩:=hX1.out.box
 obtain ⟨c0,c1,c2,c3,c4,c5,c6,c7,c8,c9,c10,c11,cf⟩:=hX2.out.box
 go_wp2
 refine bodyPost_ret (results_cell_row rfl _ _ (w.heap.size + 1) 81 _ (0,0) _ rfl ((hX1.out.put _ _ _ _ _ _ _ _ _ _ _ _)).heap Tryz.underlying81 rfl (by kernel_rfl)) rfl ?_
 rw [HV.out]
 exact zw rfl hi2.out.fst (hm3.out.put hX1.out _ _ _ _ _ _ _ _ _ _ _ _) (ht3.out.put (by omega) _ _ _ _ _ _ _ _ _ _ _ _)
set_option maxRecDepth 100000 in
set_option maxHeartbeats 6400000 in
theorem zma (ts : List Tk) (fin : Nat) (gt cap base : Nat) (S : Sv) (q : PS) (w : World) (hm : Mem (Cx.mk ts fin true) gt cap base S q w) (h0 : isT (Cx.mk ts fin true) q.pos 1 sLet = false) (h1 : isT (Cx.mk ts fin true) q.pos 1 zq = true) :
  Calls Tryz.prog 46 #[pv (Cx.mk ts fin true) gt cap S q (-1) 0] w (Out (Cx.mk ts fin true) gt cap base (zbd (Cx.mk ts fin true) q) 0 S w):=by
 have HM : Hid (Mem (Cx.mk ts fin true) gt cap base S q w):=hm
 have htok:=hm.tok
 have hfew : (Cx.mk ts fin true).ts.length ≤ 4000:=hm.few
 clear hm
 have HV : Hid (zbd (Cx.mk ts fin true) q = fstP (fnP (Cx.mk ts fin true) q)):=by show zbd (Cx.mk ts fin true) q = _; rw [zbd,h0,h1]; rfl
 unfold pv
 go_enter Tryz.func46,Tryz.ntmps46
 go_wp2_with fail
 refine (zf (Cx.mk ts fin true) gt cap base S q (-1) 0 1 sLet _ (zg (zg htok _) _) hfew (by decide)).mono ?_
 rintro e w1 ⟨rfl,hb1⟩
 rw [h0]
 obtain ⟨X0,X1,m1,t1⟩:=HM.out.two hb1
 have hX0 : Hid (Bx gt S w1 _ _):=X0
 have hX1 : Hid (Bx gt S w1 _ _):=X1
 have hm1 : Hid (Mem (Cx.mk ts fin true) gt cap base S q w1):=m1
 have ht1 : Hid (SB w.heap.size S w S w1):=t1
 clear X0 X1 m1 t1 hb1
 clear htok
 obtain ⟨a0,a1,a2,a3,a4,a5,a6,a7,a8,a9,a10,a11,af⟩:=hX0.out.box
 go_wp2_with fail
 refine (zf (Cx.mk ts fin true) gt cap base S q (-1) 0 1 zq _ hm1.out.tok hfew (by decide)).mono ?_
 rintro e w2 ⟨rfl,hb2⟩
 rw [h1]
 have hX0n : Hid (Bx gt S w2 _ _):=hX0.out.below hb2
 have hX1n : Hid (Bx gt S w2 _ _):=hX1.out.below hb2
 have ht2 : Hid (SB w.heap.size S w S w2):=ht1.out.below hb2
 have hm2 : Hid (Mem (Cx.mk ts fin true) gt cap base S q w2):=hm1.out.later hb2
 clear hb2 hX0 hX1 ht1 hm1
 have hX0 : Hid (Bx gt S w2 _ _):=hX0n
 have hX1 : Hid (Bx gt S w2 _ _):=hX1n
 clear hX0n hX1n
 clear a0 a1 a2 a3 a4 a5 a6 a7 a8 a9 a10 a11 af
 obtain ⟨a0,a1,a2,a3,a4,a5,a6,a7,a8,a9,a10,a11,af⟩:=hX0.out.box
 go_wp2_with fail
 refine (zof (Cx.mk ts fin true) gt cap base S q _ hm2.out).mono ?_
 rintro e w3 ⟨S3,q3,z3,n3,rfl,i3,m3,s3⟩
 have hX0n : Hid (Bx gt S3 w3 _ _):=hX0.out.stp s3
 have hX1n : Hid (Bx gt S3 w3 _ _):=hX1.out.stp s3
 have ht3 : Hid (SB w.heap.size S w S3 w3):=ht2.out.step s3
 clear hX0 hX1 ht2
 have hX0 : Hid (Bx gt S3 w3 _ _):=hX0n
 have hX1 : Hid (Bx gt S3 w3 _ _):=hX1n
 clear hX0n hX1n
 have hm3 : Hid (Mem (Cx.mk ts fin true) gt cap base S3 q3 w3):=m3
 have hi3 : Hid (Is2 _ q3 z3 n3):=i3
 clear i3 m3 s3 hm2
 clear a0 a1 a2 a3 a4 a5 a6 a7 a8 a9 a10 a11 af
 have hlt2 : w.heap.size + 1 < w3.heap.size:=hX1.out.lt
 unfold pv
 go_upto_region 10 with fail
 refine zm (R:=fun W => Bx gt S3 W (w.heap.size) _ ∧ Bx gt S3 W (w.heap.size + 1) _ ∧ Bx gt S3 W (w3.heap.size) _ ∧ Mem (Cx.mk ts fin true) gt cap base S3 q3 W ∧ SB w.heap.size S w S3 W) ⟨(hX0.out.alloc _),(hX1.out.alloc _),(Bx.new hm3.out _),(hm3.out.alloc _),(ht3.out.alloc _)⟩ ?_
 clear hX0 hX1 ht3 hm3
 rintro w4 ⟨X0,X1,X2,m4,t4⟩
 have hX0 : Hid (Bx gt S3 w4 _ _):=X0
 have hX1 : Hid (Bx gt S3 w4 _ _):=X1
 have hX2 : Hid (Bx gt S3 w4 _ _):=X2
 have hm4 : Hid (Mem (Cx.mk ts fin true) gt cap base S3 q3 w4):=m4
 have ht4 : Hid (SB w.heap.size S w S3 w4):=t4
 clear m4 t4 X0 X1 X2
 obtain ⟨b0,b1,b2,b3,b4,b5,b6,b7,b8,b9,b10,b11,bf⟩:=hX1.out.box
 obtain ⟨c0,c1,c2,c3,c4,c5,c6,c7,c8,c9,c10,c11,cf⟩:=hX2.out.box
 go_wp2
 refine bodyPost_ret (results_cell_row rfl _ _ (w.heap.size + 1) 81 _ (0,0) _ rfl ((hX1.out.put _ _ _ _ _ _ _ _ _ _ _ _)).heap Tryz.underlying81 rfl (by kernel_rfl)) rfl ?_
 rw [HV.out]
 exact zw rfl hi3.out.fst (hm4.out.put hX1.out _ _ _ _ _ _ _ _ _ _ _ _) (ht4.out.put (by omega) _ _ _ _ _ _ _ _ _ _ _ _)
set_option maxRecDepth 100000 in
set_option maxHeartbeats 6400000 in
theorem zoi (ts : List Tk) (fin : Nat) (gt cap base : Nat) (S : Sv) (q : PS) (w : World) (hm : Mem (Cx.mk ts fin true) gt cap base S q w) (h0 : isT (Cx.mk ts fin true) q.pos 1 sLet = false) (h1 : isT (Cx.mk ts fin true) q.pos 1 zq = false) (h2 : isT (Cx.mk ts fin true) q.pos 1 zcc = true) :
  Calls Tryz.prog 46 #[pv (Cx.mk ts fin true) gt cap S q (-1) 0] w (Out (Cx.mk ts fin true) gt cap base (zbd (Cx.mk ts fin true) q) 0 S w):=by
 have HM : Hid (Mem (Cx.mk ts fin true) gt cap base S q w):=hm
 have htok:=hm.tok
 have hfew : (Cx.mk ts fin true).ts.length ≤ 4000:=hm.few
 clear hm
 have HV : Hid (zbd (Cx.mk ts fin true) q = bd (bd (bd (bd (bd (bd (.ok q) (tokP (Cx.mk ts fin true) 1 zcc)) (tokP (Cx.mk ts fin true) 4 zr)) (pE (Cx.mk ts fin true) .sum 0)) (tokP (Cx.mk ts fin true) 4 zcw)) (tokP (Cx.mk ts fin true) 4 cSemi)) (zbz (Cx.mk ts fin true) 4 sNone)):=by show zbd (Cx.mk ts fin true) q = _; rw [zbd,h0,h1,h2]; rfl
 unfold pv
 go_enter Tryz.func46,Tryz.ntmps46
 go_wp2_with fail
 refine (zf (Cx.mk ts fin true) gt cap base S q (-1) 0 1 sLet _ (zg (zg htok _) _) hfew (by decide)).mono ?_
 rintro e w1 ⟨rfl,hb1⟩
 rw [h0]
 obtain ⟨X0,X1,m1,t1⟩:=HM.out.two hb1
 have hX0 : Hid (Bx gt S w1 _ _):=X0
 have hX1 : Hid (Bx gt S w1 _ _):=X1
 have hm1 : Hid (Mem (Cx.mk ts fin true) gt cap base S q w1):=m1
 have ht1 : Hid (SB w.heap.size S w S w1):=t1
 clear X0 X1 m1 t1 hb1
 clear htok
 obtain ⟨a0,a1,a2,a3,a4,a5,a6,a7,a8,a9,a10,a11,af⟩:=hX0.out.box
 go_wp2_with fail
 refine (zf (Cx.mk ts fin true) gt cap base S q (-1) 0 1 zq _ hm1.out.tok hfew (by decide)).mono ?_
 rintro e w2 ⟨rfl,hb2⟩
 rw [h1]
 have hX0n : Hid (Bx gt S w2 _ _):=hX0.out.below hb2
 have hX1n : Hid (Bx gt S w2 _ _):=hX1.out.below hb2
 have ht2 : Hid (SB w.heap.size S w S w2):=ht1.out.below hb2
 have hm2 : Hid (Mem (Cx.mk ts fin true) gt cap base S q w2):=hm1.out.later hb2
 clear hb2 hX0 hX1 ht1 hm1
 have hX0 : Hid (Bx gt S w2 _ _):=hX0n
 have hX1 : Hid (Bx gt S w2 _ _):=hX1n
 clear hX0n hX1n
 clear a0 a1 a2 a3 a4 a5 a6 a7 a8 a9 a10 a11 af
 obtain ⟨a0,a1,a2,a3,a4,a5,a6,a7,a8,a9,a10,a11,af⟩:=hX0.out.box
 go_wp2_with fail
 refine (zf (Cx.mk ts fin true) gt cap base S q (-1) 0 1 zcc _ hm2.out.tok hfew (by decide)).mono ?_
 rintro e w3 ⟨rfl,hb3⟩
 rw [h2]
 have hX0n : Hid (Bx gt S w3 _ _):=hX0.out.below hb3
 have hX1n : Hid (Bx gt S w3 _ _):=hX1.out.below hb3
 have ht3 : Hid (SB w.heap.size S w S w3):=ht2.out.below hb3
 have hm3 : Hid (Mem (Cx.mk ts fin true) gt cap base S q w3):=hm2.out.later hb3
 clear hb3 hX0 hX1 ht2 hm2
 have hX0 : Hid (Bx gt S w3 _ _):=hX0n
 have hX1 : Hid (Bx gt S w3 _ _):=hX1n
 clear hX0n hX1n
 clear a0 a1 a2 a3 a4 a5 a6 a7 a8 a9 a10 a11 af
 obtain ⟨a0,a1,a2,a3,a4,a5,a6,a7,a8,a9,a10,a11,af⟩:=hX0.out.box
 go_wp2_with fail
 refine (zbf (Cx.mk ts fin true) gt cap base (.ok q) S q (-1) 0 zcc _ (zbv q) hm3.out).mono ?_
 rintro e w4 ⟨S4,q4,z4,rfl,i4,m4,s4⟩
 have hX0n : Hid (Bx gt S4 w4 _ _):=hX0.out.stp s4
 have hX1n : Hid (Bx gt S4 w4 _ _):=hX1.out.stp s4
 have ht4 : Hid (SB w.heap.size S w S4 w4):=ht3.out.step s4
 clear hX0 hX1 ht3
 have hX0 : Hid (Bx gt S4 w4 _ _):=hX0n
 have hX1 : Hid (Bx gt S4 w4 _ _):=hX1n
 clear hX0n hX1n
 have hm4 : Hid (Mem (Cx.mk ts fin true) gt cap base S4 q4 w4):=m4
 have hi4 : Hid (Is _ q4 z4):=i4
 clear i4 m4 s4 hm3
 clear a0 a1 a2 a3 a4 a5 a6 a7 a8 a9 a10 a11 af
 go_wp2_with fail
 refine (zp (Cx.mk ts fin true) gt cap base _ S4 q4 z4 0 zr _ hi4.out hm4.out).mono ?_
 rintro e w5 ⟨S5,q5,z5,rfl,i5,m5,s5⟩
 have hX0n : Hid (Bx gt S5 w5 _ _):=hX0.out.stp s5
 have hX1n : Hid (Bx gt S5 w5 _ _):=hX1.out.stp s5
 have ht5 : Hid (SB w.heap.size S w S5 w5):=ht4.out.step s5
 clear hX0 hX1 ht4
 have hX0 : Hid (Bx gt S5 w5 _ _):=hX0n
 have hX1 : Hid (Bx gt S5 w5 _ _):=hX1n
 clear hX0n hX1n
 have hm5 : Hid (Mem (Cx.mk ts fin true) gt cap base S5 q5 w5):=m5
 have hi5 : Hid (Is _ q5 z5):=i5
 clear i5 m5 s5 hm4
 go_wp2_with fail
 refine (zet (Cx.mk ts fin true) gt cap base _ S5 q5 z5 _ hi5.out hm5.out).mono ?_
 rintro e w6 ⟨S6,q6,z6,rfl,i6,m6,s6⟩
 have hX0n : Hid (Bx gt S6 w6 _ _):=hX0.out.stp s6
 have hX1n : Hid (Bx gt S6 w6 _ _):=hX1.out.stp s6
 have ht6 : Hid (SB w.heap.size S w S6 w6):=ht5.out.step s6
 clear hX0 hX1 ht5
 have hX0 : Hid (Bx gt S6 w6 _ _):=hX0n
 have hX1 : Hid (Bx gt S6 w6 _ _):=hX1n
 clear hX0n hX1n
 have hm6 : Hid (Mem (Cx.mk ts fin true) gt cap base S6 q6 w6):=m6
 have hi6 : Hid (Is _ q6 z6):=i6
 clear i6 m6 s6 hm5
 go_wp2_with fail
 refine (zp (Cx.mk ts fin true) gt cap base _ S6 q6 z6 0 zcw _ hi6.out hm6.out).mono ?_
 rintro e w7 ⟨S7,q7,z7,rfl,i7,m7,s7⟩
 have hX0n : Hid (Bx gt S7 w7 _ _):=hX0.out.stp s7
 have hX1n : Hid (Bx gt S7 w7 _ _):=hX1.out.stp s7
 have ht7 : Hid (SB w.heap.size S w S7 w7):=ht6.out.step s7
 clear hX0 hX1 ht6
 have hX0 : Hid (Bx gt S7 w7 _ _):=hX0n
 have hX1 : Hid (Bx gt S7 w7 _ _):=hX1n
 clear hX0n hX1n
 have hm7 : Hid (Mem (Cx.mk ts fin true) gt cap base S7 q7 w7):=m7
 have hi7 : Hid (Is _ q7 z7):=i7
 clear i7 m7 s7 hm6
 have hlt2 : w.heap.size + 1 < w7.heap.size:=hX1.out.lt
 unfold pv
 go_upto_region 13 with fail
 refine zm (R:=fun W => Bx gt S7 W (w.heap.size) _ ∧ Bx gt S7 W (w.heap.size + 1) _ ∧ Bx gt S7 W (w7.heap.size) _ ∧ Mem (Cx.mk ts fin true) gt cap base S7 q7 W ∧ SB w.heap.size S w S7 W) ⟨(hX0.out.alloc _),(hX1.out.alloc _),(Bx.new hm7.out _),(hm7.out.alloc _),(ht7.out.alloc _)⟩ ?_
 clear hX0 hX1 ht7 hm7
 rintro w8 ⟨X0,X1,X2,m8,t8⟩
 have hX0 : Hid (Bx gt S7 w8 _ _):=X0
 have hX1 : Hid (Bx gt S7 w8 _ _):=X1
 have hX2 : Hid (Bx gt S7 w8 _ _):=X2
 have hm8 : Hid (Mem (Cx.mk ts fin true) gt cap base S7 q7 w8):=m8
 have ht8 : Hid (SB w.heap.size S w S7 w8):=t8
 clear m8 t8 X0 X1 X2
 obtain ⟨c0,c1,c2,c3,c4,c5,c6,c7,c8,c9,c10,c11,cf⟩:=hX2.out.box
 go_wp2_with fail
 refine (zp (Cx.mk ts fin true) gt cap base _ S7 q7 z7 0 cSemi _ hi7.out hm8.out).mono ?_
 rintro e w9 ⟨S9,q9,z9,rfl,i9,m9,s9⟩
 have hX0n : Hid (Bx gt S9 w9 _ _):=hX0.out.stp s9
 have hX1n : Hid (Bx gt S9 w9 _ _):=hX1.out.stp s9
 have hX2n : Hid (Bx gt S9 w9 _ _):=hX2.out.stp s9
 have ht9 : Hid (SB w.heap.size S w S9 w9):=ht8.out.step s9
 clear hX0 hX1 hX2 ht8
 have hX0 : Hid (Bx gt S9 w9 _ _):=hX0n
 have hX1 : Hid (Bx gt S9 w9 _ _):=hX1n
 have hX2 : Hid (Bx gt S9 w9 _ _):=hX2n
 clear hX0n hX1n hX2n
 have hm9 : Hid (Mem (Cx.mk ts fin true) gt cap base S9 q9 w9):=m9
 have hi9 : Hid (Is _ q9 z9):=i9
 clear i9 m9 s9 hm8
 clear c0 c1 c2 c3 c4 c5 c6 c7 c8 c9 c10 c11 cf
 go_wp2_with fail
 refine (zdy (Cx.mk ts fin true) gt cap base _ S9 q9 z9 0 4 sNone _ hi9.out hm9.out (zde hi9.out)).mono ?_
 rintro e w10 ⟨S10,q10,z10,rfl,i10,m10,s10⟩
 have hX0n : Hid (Bx gt S10 w10 _ _):=hX0.out.stp s10
 have hX1n : Hid (Bx gt S10 w10 _ _):=hX1.out.stp s10
 have hX2n : Hid (Bx gt S10 w10 _ _):=hX2.out.stp s10
 have ht10 : Hid (SB w.heap.size S w S10 w10):=ht9.out.step s10
 clear hX0 hX1 hX2 ht9
 have hX0 : Hid (Bx gt S10 w10 _ _):=hX0n
 have hX1 : Hid (Bx gt S10 w10 _ _):=hX1n
 have hX2 : Hid (Bx gt S10 w10 _ _):=hX2n
 clear hX0n hX1n hX2n
 have hm10 : Hid (Mem (Cx.mk ts fin true) gt cap base S10 q10 w10):=m10
 have hi10 : Hid (Is _ q10 z10):=i10
 clear i10 m10 s10 hm9
 obtain ⟨b0,b1,b2,b3,b4,b5,b6,b7,b8,b9,b10,b11,bf⟩:=hX1.out.box
 unfold pv
 go_wp2
 refine bodyPost_ret (results_cell_row rfl _ _ (w.heap.size + 1) 81 _ (0,0) _ rfl ((hX1.out.put _ _ _ _ _ _ _ _ _ _ _ _)).heap Tryz.underlying81 rfl (by kernel_rfl)) rfl ?_
 rw [HV.out]
 exact zw rfl hi10.out (hm10.out.put hX1.out _ _ _ _ _ _ _ _ _ _ _ _) (ht10.out.put (by omega) _ _ _ _ _ _ _ _ _ _ _ _)
set_option maxRecDepth 100000 in
set_option maxHeartbeats 6400000 in
theorem zoj (ts : List Tk) (fin : Nat) (gt cap base : Nat) (S : Sv) (q : PS) (w : World) (hm : Mem (Cx.mk ts fin true) gt cap base S q w) (h0 : isT (Cx.mk ts fin true) q.pos 1 sLet = false) (h1 : isT (Cx.mk ts fin true) q.pos 1 zq = false) (h2 : isT (Cx.mk ts fin true) q.pos 1 zcc = false) (h3 : isT (Cx.mk ts fin true) q.pos 1 zck = true) :
  Calls Tryz.prog 46 #[pv (Cx.mk ts fin true) gt cap S q (-1) 0] w (Out (Cx.mk ts fin true) gt cap base (zbd (Cx.mk ts fin true) q) 0 S w):=by
 have HM : Hid (Mem (Cx.mk ts fin true) gt cap base S q w):=hm
 have htok:=hm.tok
 have hfew : (Cx.mk ts fin true).ts.length ≤ 4000:=hm.few
 clear hm
 have HV : Hid (zbd (Cx.mk ts fin true) q = bd (bd (bd (bd (.ok q) (tokP (Cx.mk ts fin true) 1 zck)) (pE (Cx.mk ts fin true) .sum 0)) (tokP (Cx.mk ts fin true) 4 cSemi)) (zbz (Cx.mk ts fin true) 5 sNone)):=by show zbd (Cx.mk ts fin true) q = _; rw [zbd,h0,h1,h2,h3]; rfl
 unfold pv
 go_enter Tryz.func46,Tryz.ntmps46
 go_wp2_with fail
 refine (zf (Cx.mk ts fin true) gt cap base S q (-1) 0 1 sLet _ (zg (zg htok _) _) hfew (by decide)).mono ?_
 rintro e w1 ⟨rfl,hb1⟩
 rw [h0]
 obtain ⟨X0,X1,m1,t1⟩:=HM.out.two hb1
 have hX0 : Hid (Bx gt S w1 _ _):=X0
 have hX1 : Hid (Bx gt S w1 _ _):=X1
 have hm1 : Hid (Mem (Cx.mk ts fin true) gt cap base S q w1):=m1
 have ht1 : Hid (SB w.heap.size S w S w1):=t1
 clear X0 X1 m1 t1 hb1
 clear htok
 obtain ⟨a0,a1,a2,a3,a4,a5,a6,a7,a8,a9,a10,a11,af⟩:=hX0.out.box
 go_wp2_with fail
 refine (zf (Cx.mk ts fin true) gt cap base S q (-1) 0 1 zq _ hm1.out.tok hfew (by decide)).mono ?_
 rintro e w2 ⟨rfl,hb2⟩
 rw [h1]
 have hX0n : Hid (Bx gt S w2 _ _):=hX0.out.below hb2
 have hX1n : Hid (Bx gt S w2 _ _):=hX1.out.below hb2
 have ht2 : Hid (SB w.heap.size S w S w2):=ht1.out.below hb2
 have hm2 : Hid (Mem (Cx.mk ts fin true) gt cap base S q w2):=hm1.out.later hb2
 clear hb2 hX0 hX1 ht1 hm1
 have hX0 : Hid (Bx gt S w2 _ _):=hX0n
 have hX1 : Hid (Bx gt S w2 _ _):=hX1n
 clear hX0n hX1n
 clear a0 a1 a2 a3 a4 a5 a6 a7 a8 a9 a10 a11 af
 obtain ⟨a0,a1,a2,a3,a4,a5,a6,a7,a8,a9,a10,a11,af⟩:=hX0.out.box
 go_wp2_with fail
 refine (zf (Cx.mk ts fin true) gt cap base S q (-1) 0 1 zcc _ hm2.out.tok hfew (by decide)).mono ?_
 rintro e w3 ⟨rfl,hb3⟩
 rw [h2]
 have hX0n : Hid (Bx gt S w3 _ _):=hX0.out.below hb3
 have hX1n : Hid (Bx gt S w3 _ _):=hX1.out.below hb3
 have ht3 : Hid (SB w.heap.size S w S w3):=ht2.out.below hb3
 have hm3 : Hid (Mem (Cx.mk ts fin true) gt cap base S q w3):=hm2.out.later hb3
 clear hb3 hX0 hX1 ht2 hm2
 have hX0 : Hid (Bx gt S w3 _ _):=hX0n
 have hX1 : Hid (Bx gt S w3 _ _):=hX1n
 clear hX0n hX1n
 clear a0 a1 a2 a3 a4 a5 a6 a7 a8 a9 a10 a11 af
 obtain ⟨a0,a1,a2,a3,a4,a5,a6,a7,a8,a9,a10,a11,af⟩:=hX0.out.box
 go_wp2_with fail
 refine (zf (Cx.mk ts fin true) gt cap base S q (-1) 0 1 zck _ hm3.out.tok hfew (by decide)).mono ?_
 rintro e w4 ⟨rfl,hb4⟩
 rw [h3]
 have hX0n : Hid (Bx gt S w4 _ _):=hX0.out.below hb4
 have hX1n : Hid (Bx gt S w4 _ _):=hX1.out.below hb4
 have ht4 : Hid (SB w.heap.size S w S w4):=ht3.out.below hb4
 have hm4 : Hid (Mem (Cx.mk ts fin true) gt cap base S q w4):=hm3.out.later hb4
 clear hb4 hX0 hX1 ht3 hm3
 have hX0 : Hid (Bx gt S w4 _ _):=hX0n
 have hX1 : Hid (Bx gt S w4 _ _):=hX1n
 clear hX0n hX1n
 clear a0 a1 a2 a3 a4 a5 a6 a7 a8 a9 a10 a11 af
 obtain ⟨a0,a1,a2,a3,a4,a5,a6,a7,a8,a9,a10,a11,af⟩:=hX0.out.box
 go_wp2_with fail
 refine (zbf (Cx.mk ts fin true) gt cap base (.ok q) S q (-1) 0 zck _ (zbv q) hm4.out).mono ?_
 rintro e w5 ⟨S5,q5,z5,rfl,i5,m5,s5⟩
 have hX0n : Hid (Bx gt S5 w5 _ _):=hX0.out.stp s5
 have hX1n : Hid (Bx gt S5 w5 _ _):=hX1.out.stp s5
 have ht5 : Hid (SB w.heap.size S w S5 w5):=ht4.out.step s5
 clear hX0 hX1 ht4
 have hX0 : Hid (Bx gt S5 w5 _ _):=hX0n
 have hX1 : Hid (Bx gt S5 w5 _ _):=hX1n
 clear hX0n hX1n
 have hm5 : Hid (Mem (Cx.mk ts fin true) gt cap base S5 q5 w5):=m5
 have hi5 : Hid (Is _ q5 z5):=i5
 clear i5 m5 s5 hm4
 clear a0 a1 a2 a3 a4 a5 a6 a7 a8 a9 a10 a11 af
 go_wp2_with fail
 refine (zet (Cx.mk ts fin true) gt cap base _ S5 q5 z5 _ hi5.out hm5.out).mono ?_
 rintro e w6 ⟨S6,q6,z6,rfl,i6,m6,s6⟩
 have hX0n : Hid (Bx gt S6 w6 _ _):=hX0.out.stp s6
 have hX1n : Hid (Bx gt S6 w6 _ _):=hX1.out.stp s6
 have ht6 : Hid (SB w.heap.size S w S6 w6):=ht5.out.step s6
 clear hX0 hX1 ht5
 have hX0 : Hid (Bx gt S6 w6 _ _):=hX0n
 have hX1 : Hid (Bx gt S6 w6 _ _):=hX1n
 clear hX0n hX1n
 have hm6 : Hid (Mem (Cx.mk ts fin true) gt cap base S6 q6 w6):=m6
 have hi6 : Hid (Is _ q6 z6):=i6
 clear i6 m6 s6 hm5
 go_wp2_with fail
 refine (zp (Cx.mk ts fin true) gt cap base _ S6 q6 z6 0 cSemi _ hi6.out hm6.out).mono ?_
 rintro e w7 ⟨S7,q7,z7,rfl,i7,m7,s7⟩
 have hX0n : Hid (Bx gt S7 w7 _ _):=hX0.out.stp s7
 have hX1n : Hid (Bx gt S7 w7 _ _):=hX1.out.stp s7
 have ht7 : Hid (SB w.heap.size S w S7 w7):=ht6.out.step s7
 clear hX0 hX1 ht6
 have hX0 : Hid (Bx gt S7 w7 _ _):=hX0n
 have hX1 : Hid (Bx gt S7 w7 _ _):=hX1n
 clear hX0n hX1n
 have hm7 : Hid (Mem (Cx.mk ts fin true) gt cap base S7 q7 w7):=m7
 have hi7 : Hid (Is _ q7 z7):=i7
 clear i7 m7 s7 hm6
 go_wp2_with fail
 refine (zdy (Cx.mk ts fin true) gt cap base _ S7 q7 z7 0 5 sNone _ hi7.out hm7.out (zde hi7.out)).mono ?_
 rintro e w8 ⟨S8,q8,z8,rfl,i8,m8,s8⟩
 have hX0n : Hid (Bx gt S8 w8 _ _):=hX0.out.stp s8
 have hX1n : Hid (Bx gt S8 w8 _ _):=hX1.out.stp s8
 have ht8 : Hid (SB w.heap.size S w S8 w8):=ht7.out.step s8
 clear hX0 hX1 ht7
 have hX0 : Hid (Bx gt S8 w8 _ _):=hX0n
 have hX1 : Hid (Bx gt S8 w8 _ _):=hX1n
 clear hX0n hX1n
 have hm8 : Hid (Mem (Cx.mk ts fin true) gt cap base S8 q8 w8):=m8
 have hi8 : Hid (Is _ q8 z8):=i8
 clear i8 m8 s8 hm7
 obtain ⟨b0,b1,b2,b3,b4,b5,b6,b7,b8,b9,b10,b11,bf⟩:=hX1.out.box
 unfold pv
 go_wp2
 refine bodyPost_ret (results_cell_row rfl _ _ (w.heap.size + 1) 81 _ (0,0) _ rfl ((hX1.out.put _ _ _ _ _ _ _ _ _ _ _ _)).heap Tryz.underlying81 rfl (by kernel_rfl)) rfl ?_
 rw [HV.out]
 exact zw rfl hi8.out (hm8.out.put hX1.out _ _ _ _ _ _ _ _ _ _ _ _) (ht8.out.put (by omega) _ _ _ _ _ _ _ _ _ _ _ _)
set_option maxRecDepth 100000 in
set_option maxHeartbeats 6400000 in
theorem zpe (ts : List Tk) (fin : Nat) (gt cap base : Nat) (S : Sv) (q : PS) (w : World) (hm : Mem (Cx.mk ts fin true) gt cap base S q w) (h0 : isT (Cx.mk ts fin true) q.pos 1 sLet = false) (h1 : isT (Cx.mk ts fin true) q.pos 1 zq = false) (h2 : isT (Cx.mk ts fin true) q.pos 1 zcc = false) (h3 : isT (Cx.mk ts fin true) q.pos 1 zck = false) (h4 : isT (Cx.mk ts fin true) q.pos 1 zgg = true) :
  Calls Tryz.prog 46 #[pv (Cx.mk ts fin true) gt cap S q (-1) 0] w (Out (Cx.mk ts fin true) gt cap base (zbd (Cx.mk ts fin true) q) 0 S w):=by
 have HM : Hid (Mem (Cx.mk ts fin true) gt cap base S q w):=hm
 have htok:=hm.tok
 have hfew : (Cx.mk ts fin true).ts.length ≤ 4000:=hm.few
 clear hm
 have HV : Hid (zbd (Cx.mk ts fin true) q = bd (bd (bd (bd (.ok q) (tokP (Cx.mk ts fin true) 1 zgg)) (pE (Cx.mk ts fin true) .sum 0)) (tokP (Cx.mk ts fin true) 4 cSemi)) (zbz (Cx.mk ts fin true) 6 sNone)):=by show zbd (Cx.mk ts fin true) q = _; rw [zbd,h0,h1,h2,h3,h4]; rfl
 unfold pv
 go_enter Tryz.func46,Tryz.ntmps46
 go_wp2_with fail
 refine (zf (Cx.mk ts fin true) gt cap base S q (-1) 0 1 sLet _ (zg (zg htok _) _) hfew (by decide)).mono ?_
 rintro e w1 ⟨rfl,hb1⟩
 rw [h0]
 obtain ⟨X0,X1,m1,t1⟩:=HM.out.two hb1
 have hX0 : Hid (Bx gt S w1 _ _):=X0
 have hX1 : Hid (Bx gt S w1 _ _):=X1
 have hm1 : Hid (Mem (Cx.mk ts fin true) gt cap base S q w1):=m1
 have ht1 : Hid (SB w.heap.size S w S w1):=t1
 clear X0 X1 m1 t1 hb1
 clear htok
 obtain ⟨a0,a1,a2,a3,a4,a5,a6,a7,a8,a9,a10,a11,af⟩:=hX0.out.box
 go_wp2_with fail
 refine (zf (Cx.mk ts fin true) gt cap base S q (-1) 0 1 zq _ hm1.out.tok hfew (by decide)).mono ?_
 rintro e w2 ⟨rfl,hb2⟩
 rw [h1]
 have hX0n : Hid (Bx gt S w2 _ _):=hX0.out.below hb2
 have hX1n : Hid (Bx gt S w2 _ _):=hX1.out.below hb2
 have ht2 : Hid (SB w.heap.size S w S w2):=ht1.out.below hb2
 have hm2 : Hid (Mem (Cx.mk ts fin true) gt cap base S q w2):=hm1.out.later hb2
 clear hb2 hX0 hX1 ht1 hm1
 have hX0 : Hid (Bx gt S w2 _ _):=hX0n
 have hX1 : Hid (Bx gt S w2 _ _):=hX1n
 clear hX0n hX1n
 clear a0 a1 a2 a3 a4 a5 a6 a7 a8 a9 a10 a11 af
 obtain ⟨a0,a1,a2,a3,a4,a5,a6,a7,a8,a9,a10,a11,af⟩:=hX0.out.box
 go_wp2_with fail
 refine (zf (Cx.mk ts fin true) gt cap base S q (-1) 0 1 zcc _ hm2.out.tok hfew (by decide)).mono ?_
 rintro e w3 ⟨rfl,hb3⟩
 rw [h2]
 have hX0n : Hid (Bx gt S w3 _ _):=hX0.out.below hb3
 have hX1n : Hid (Bx gt S w3 _ _):=hX1.out.below hb3
 have ht3 : Hid (SB w.heap.size S w S w3):=ht2.out.below hb3
 have hm3 : Hid (Mem (Cx.mk ts fin true) gt cap base S q w3):=hm2.out.later hb3
 clear hb3 hX0 hX1 ht2 hm2
 have hX0 : Hid (Bx gt S w3 _ _):=hX0n
 have hX1 : Hid (Bx gt S w3 _ _):=hX1n
 clear hX0n hX1n
 clear a0 a1 a2 a3 a4 a5 a6 a7 a8 a9 a10 a11 af
 obtain ⟨a0,a1,a2,a3,a4,a5,a6,a7,a8,a9,a10,a11,af⟩:=hX0.out.box
 go_wp2_with fail
 refine (zf (Cx.mk ts fin true) gt cap base S q (-1) 0 1 zck _ hm3.out.tok hfew (by decide)).mono ?_
 rintro e w4 ⟨rfl,hb4⟩
 rw [h3]
 have hX0n : Hid (Bx gt S w4 _ _):=hX0.out.below hb4
 have hX1n : Hid (Bx gt S w4 _ _):=hX1.out.below hb4
 have ht4 : Hid (SB w.heap.size S w S w4):=ht3.out.below hb4
 have hm4 : Hid (Mem (Cx.mk ts fin true) gt cap base S q w4):=hm3.out.later hb4
 clear hb4 hX0 hX1 ht3 hm3
 have hX0 : Hid (Bx gt S w4 _ _):=hX0n
 have hX1 : Hid (Bx gt S w4 _ _):=hX1n
 clear hX0n hX1n
 clear a0 a1 a2 a3 a4 a5 a6 a7 a8 a9 a10 a11 af
 obtain ⟨a0,a1,a2,a3,a4,a5,a6,a7,a8,a9,a10,a11,af⟩:=hX0.out.box
 go_wp2_with fail
 refine (zf (Cx.mk ts fin true) gt cap base S q (-1) 0 1 zgg _ hm4.out.tok hfew (by decide)).mono ?_
 rintro e w5 ⟨rfl,hb5⟩
 rw [h4]
 have hX0n : Hid (Bx gt S w5 _ _):=hX0.out.below hb5
 have hX1n : Hid (Bx gt S w5 _ _):=hX1.out.below hb5
 have ht5 : Hid (SB w.heap.size S w S w5):=ht4.out.below hb5
 have hm5 : Hid (Mem (Cx.mk ts fin true) gt cap base S q w5):=hm4.out.later hb5
 clear hb5 hX0 hX1 ht4 hm4
 have hX0 : Hid (Bx gt S w5 _ _):=hX0n
 have hX1 : Hid (Bx gt S w5 _ _):=hX1n
 clear hX0n hX1n
 clear a0 a1 a2 a3 a4 a5 a6 a7 a8 a9 a10 a11 af
 obtain ⟨a0,a1,a2,a3,a4,a5,a6,a7,a8,a9,a10,a11,af⟩:=hX0.out.box
 go_wp2_with fail
 refine (zbf (Cx.mk ts fin true) gt cap base (.ok q) S q (-1) 0 zgg _ (zbv q) hm5.out).mono ?_
 rintro e w6 ⟨S6,q6,z6,rfl,i6,m6,s6⟩
 have hX0n : Hid (Bx gt S6 w6 _ _):=hX0.out.stp s6
 have hX1n : Hid (Bx gt S6 w6 _ _):=hX1.out.stp s6
 have ht6 : Hid (SB w.heap.size S w S6 w6):=ht5.out.step s6
 clear hX0 hX1 ht5
 have hX0 : Hid (Bx gt S6 w6 _ _):=hX0n
 have hX1 : Hid (Bx gt S6 w6 _ _):=hX1n
 clear hX0n hX1n
 have hm6 : Hid (Mem (Cx.mk ts fin true) gt cap base S6 q6 w6):=m6
 have hi6 : Hid (Is _ q6 z6):=i6
 clear i6 m6 s6 hm5
 clear a0 a1 a2 a3 a4 a5 a6 a7 a8 a9 a10 a11 af
 go_wp2_with fail
 refine (zet (Cx.mk ts fin true) gt cap base _ S6 q6 z6 _ hi6.out hm6.out).mono ?_
 rintro e w7 ⟨S7,q7,z7,rfl,i7,m7,s7⟩
 have hX0n : Hid (Bx gt S7 w7 _ _):=hX0.out.stp s7
 have hX1n : Hid (Bx gt S7 w7 _ _):=hX1.out.stp s7
 have ht7 : Hid (SB w.heap.size S w S7 w7):=ht6.out.step s7
 clear hX0 hX1 ht6
 have hX0 : Hid (Bx gt S7 w7 _ _):=hX0n
 have hX1 : Hid (Bx gt S7 w7 _ _):=hX1n
 clear hX0n hX1n
 have hm7 : Hid (Mem (Cx.mk ts fin true) gt cap base S7 q7 w7):=m7
 have hi7 : Hid (Is _ q7 z7):=i7
 clear i7 m7 s7 hm6
 go_wp2_with fail
 refine (zp (Cx.mk ts fin true) gt cap base _ S7 q7 z7 0 cSemi _ hi7.out hm7.out).mono ?_
 rintro e w8 ⟨S8,q8,z8,rfl,i8,m8,s8⟩
 have hX0n : Hid (Bx gt S8 w8 _ _):=hX0.out.stp s8
 have hX1n : Hid (Bx gt S8 w8 _ _):=hX1.out.stp s8
 have ht8 : Hid (SB w.heap.size S w S8 w8):=ht7.out.step s8
 clear hX0 hX1 ht7
 have hX0 : Hid (Bx gt S8 w8 _ _):=hX0n
 have hX1 : Hid (Bx gt S8 w8 _ _):=hX1n
 clear hX0n hX1n
 have hm8 : Hid (Mem (Cx.mk ts fin true) gt cap base S8 q8 w8):=m8
 have hi8 : Hid (Is _ q8 z8):=i8
 clear i8 m8 s8 hm7
 go_wp2_with fail
 refine (zdy (Cx.mk ts fin true) gt cap base _ S8 q8 z8 0 6 sNone _ hi8.out hm8.out (zde hi8.out)).mono ?_
 rintro e w9 ⟨S9,q9,z9,rfl,i9,m9,s9⟩
 have hX0n : Hid (Bx gt S9 w9 _ _):=hX0.out.stp s9
 have hX1n : Hid (Bx gt S9 w9 _ _):=hX1.out.stp s9
 have ht9 : Hid (SB w.heap.size S w S9 w9):=ht8.out.step s9
 clear hX0 hX1 ht8
 have hX0 : Hid (Bx gt S9 w9 _ _):=hX0n
 have hX1 : Hid (Bx gt S9 w9 _ _):=hX1n
 clear hX0n hX1n
 have hm9 : Hid (Mem (Cx.mk ts fin true) gt cap base S9 q9 w9):=m9
 have hi9 : Hid (Is _ q9 z9):=i9
 clear i9 m9 s9 hm8
 obtain ⟨b0,b1,b2,b3,b4,b5,b6,b7,b8,b9,b10,b11,bf⟩:=hX1.out.box
 unfold pv
 go_wp2
 refine bodyPost_ret (results_cell_row rfl _ _ (w.heap.size + 1) 81 _ (0,0) _ rfl ((hX1.out.put _ _ _ _ _ _ _ _ _ _ _ _)).heap Tryz.underlying81 rfl (by kernel_rfl)) rfl ?_
 rw [HV.out]
 exact zw rfl hi9.out (hm9.out.put hX1.out _ _ _ _ _ _ _ _ _ _ _ _) (ht9.out.put (by omega) _ _ _ _ _ _ _ _ _ _ _ _)
set_option maxRecDepth 100000 in
set_option maxHeartbeats 6400000 in
theorem zro (ts : List Tk) (fin : Nat) (gt cap base : Nat) (S : Sv) (q : PS) (w : World) (hm : Mem (Cx.mk ts fin true) gt cap base S q w) (h0 : isT (Cx.mk ts fin true) q.pos 1 sLet = false) (h1 : isT (Cx.mk ts fin true) q.pos 1 zq = false) (h2 : isT (Cx.mk ts fin true) q.pos 1 zcc = false) (h3 : isT (Cx.mk ts fin true) q.pos 1 zck = false) (h4 : isT (Cx.mk ts fin true) q.pos 1 zgg = false) :
  Calls Tryz.prog 46 #[pv (Cx.mk ts fin true) gt cap S q (-1) 0] w (Out (Cx.mk ts fin true) gt cap base (zbd (Cx.mk ts fin true) q) 0 S w):=by
 have HM : Hid (Mem (Cx.mk ts fin true) gt cap base S q w):=hm
 have htok:=hm.tok
 have hfew : (Cx.mk ts fin true).ts.length ≤ 4000:=hm.few
 clear hm
 have HV : Hid (zbd (Cx.mk ts fin true) q = bd (bd (.ok q) (zl (Cx.mk ts fin true) false)) fun a => bd (bd (bd (bd (.ok a.1) (tokP (Cx.mk ts fin true) 4 cEq)) (pE (Cx.mk ts fin true) .sum 0)) (tokP (Cx.mk ts fin true) 4 cSemi)) (zbz (Cx.mk ts fin true) 3 a.2)):=by show zbd (Cx.mk ts fin true) q = _; rw [zbd,h0,h1,h2,h3,h4]; rfl
 unfold pv
 go_enter Tryz.func46,Tryz.ntmps46
 go_wp2_with fail
 refine (zf (Cx.mk ts fin true) gt cap base S q (-1) 0 1 sLet _ (zg (zg htok _) _) hfew (by decide)).mono ?_
 rintro e w1 ⟨rfl,hb1⟩
 rw [h0]
 obtain ⟨X0,X1,m1,t1⟩:=HM.out.two hb1
 have hX0 : Hid (Bx gt S w1 _ _):=X0
 have hX1 : Hid (Bx gt S w1 _ _):=X1
 have hm1 : Hid (Mem (Cx.mk ts fin true) gt cap base S q w1):=m1
 have ht1 : Hid (SB w.heap.size S w S w1):=t1
 clear X0 X1 m1 t1 hb1
 clear htok
 obtain ⟨a0,a1,a2,a3,a4,a5,a6,a7,a8,a9,a10,a11,af⟩:=hX0.out.box
 go_wp2_with fail
 refine (zf (Cx.mk ts fin true) gt cap base S q (-1) 0 1 zq _ hm1.out.tok hfew (by decide)).mono ?_
 rintro e w2 ⟨rfl,hb2⟩
 rw [h1]
 have hX0n : Hid (Bx gt S w2 _ _):=hX0.out.below hb2
 have hX1n : Hid (Bx gt S w2 _ _):=hX1.out.below hb2
 have ht2 : Hid (SB w.heap.size S w S w2):=ht1.out.below hb2
 have hm2 : Hid (Mem (Cx.mk ts fin true) gt cap base S q w2):=hm1.out.later hb2
 clear hb2 hX0 hX1 ht1 hm1
 have hX0 : Hid (Bx gt S w2 _ _):=hX0n
 have hX1 : Hid (Bx gt S w2 _ _):=hX1n
 clear hX0n hX1n
 clear a0 a1 a2 a3 a4 a5 a6 a7 a8 a9 a10 a11 af
 obtain ⟨a0,a1,a2,a3,a4,a5,a6,a7,a8,a9,a10,a11,af⟩:=hX0.out.box
 go_wp2_with fail
 refine (zf (Cx.mk ts fin true) gt cap base S q (-1) 0 1 zcc _ hm2.out.tok hfew (by decide)).mono ?_
 rintro e w3 ⟨rfl,hb3⟩
 rw [h2]
 have hX0n : Hid (Bx gt S w3 _ _):=hX0.out.below hb3
 have hX1n : Hid (Bx gt S w3 _ _):=hX1.out.below hb3
 have ht3 : Hid (SB w.heap.size S w S w3):=ht2.out.below hb3
 have hm3 : Hid (Mem (Cx.mk ts fin true) gt cap base S q w3):=hm2.out.later hb3
 clear hb3 hX0 hX1 ht2 hm2
 have hX0 : Hid (Bx gt S w3 _ _):=hX0n
 have hX1 : Hid (Bx gt S w3 _ _):=hX1n
 clear hX0n hX1n
 clear a0 a1 a2 a3 a4 a5 a6 a7 a8 a9 a10 a11 af
 obtain ⟨a0,a1,a2,a3,a4,a5,a6,a7,a8,a9,a10,a11,af⟩:=hX0.out.box
 go_wp2_with fail
 refine (zf (Cx.mk ts fin true) gt cap base S q (-1) 0 1 zck _ hm3.out.tok hfew (by decide)).mono ?_
 rintro e w4 ⟨rfl,hb4⟩
 rw [h3]
 have hX0n : Hid (Bx gt S w4 _ _):=hX0.out.below hb4
 have hX1n : Hid (Bx gt S w4 _ _):=hX1.out.below hb4
 have ht4 : Hid (SB w.heap.size S w S w4):=ht3.out.below hb4
 have hm4 : Hid (Mem (Cx.mk ts fin true) gt cap base S q w4):=hm3.out.later hb4
 clear hb4 hX0 hX1 ht3 hm3
 have hX0 : Hid (Bx gt S w4 _ _):=hX0n
 have hX1 : Hid (Bx gt S w4 _ _):=hX1n
 clear hX0n hX1n
 clear a0 a1 a2 a3 a4 a5 a6 a7 a8 a9 a10 a11 af
 obtain ⟨a0,a1,a2,a3,a4,a5,a6,a7,a8,a9,a10,a11,af⟩:=hX0.out.box
 go_wp2_with fail
 refine (zf (Cx.mk ts fin true) gt cap base S q (-1) 0 1 zgg _ hm4.out.tok hfew (by decide)).mono ?_
 rintro e w5 ⟨rfl,hb5⟩
 rw [h4]
 have hX0n : Hid (Bx gt S w5 _ _):=hX0.out.below hb5
 have hX1n : Hid (Bx gt S w5 _ _):=hX1.out.below hb5
 have ht5 : Hid (SB w.heap.size S w S w5):=ht4.out.below hb5
 have hm5 : Hid (Mem (Cx.mk ts fin true) gt cap base S q w5):=hm4.out.later hb5
 clear hb5 hX0 hX1 ht4 hm4
 have hX0 : Hid (Bx gt S w5 _ _):=hX0n
 have hX1 : Hid (Bx gt S w5 _ _):=hX1n
 clear hX0n hX1n
 clear a0 a1 a2 a3 a4 a5 a6 a7 a8 a9 a10 a11 af
 obtain ⟨a0,a1,a2,a3,a4,a5,a6,a7,a8,a9,a10,a11,af⟩:=hX0.out.box
 go_wp2_with fail
 refine (zby (Cx.mk ts fin true) gt cap base (.ok q) S q (-1) 0 false _ (zbv q) hm5.out).mono ?_
 rintro e w6 ⟨S6,q6,z6,n6,rfl,i6,m6,s6⟩
 have hX0n : Hid (Bx gt S6 w6 _ _):=hX0.out.stp s6
 have hX1n : Hid (Bx gt S6 w6 _ _):=hX1.out.stp s6
 have ht6 : Hid (SB w.heap.size S w S6 w6):=ht5.out.step s6
 clear hX0 hX1 ht5
 have hX0 : Hid (Bx gt S6 w6 _ _):=hX0n
 have hX1 : Hid (Bx gt S6 w6 _ _):=hX1n
 clear hX0n hX1n
 have hm6 : Hid (Mem (Cx.mk ts fin true) gt cap base S6 q6 w6):=m6
 have hi6 : Hid (Is2 _ q6 z6 n6):=i6
 clear i6 m6 s6 hm5
 clear a0 a1 a2 a3 a4 a5 a6 a7 a8 a9 a10 a11 af
 have hlt2 : w.heap.size + 1 < w6.heap.size:=hX1.out.lt
 unfold pv
 go_upto_region 19 with fail
 refine zm (R:=fun W => Bx gt S6 W (w.heap.size) _ ∧ Bx gt S6 W (w.heap.size + 1) _ ∧ Bx gt S6 W (w6.heap.size) _ ∧ Mem (Cx.mk ts fin true) gt cap base S6 q6 W ∧ SB w.heap.size S w S6 W) ⟨(hX0.out.alloc _),(hX1.out.alloc _),(Bx.new hm6.out _),(hm6.out.alloc _),(ht6.out.alloc _)⟩ ?_
 clear hX0 hX1 ht6 hm6
 rintro w7 ⟨X0,X1,X2,m7,t7⟩
 have hX0 : Hid (Bx gt S6 w7 _ _):=X0
 have hX1 : Hid (Bx gt S6 w7 _ _):=X1
 have hX2 : Hid (Bx gt S6 w7 _ _):=X2
 have hm7 : Hid (Mem (Cx.mk ts fin true) gt cap base S6 q6 w7):=m7
 have ht7 : Hid (SB w.heap.size S w S6 w7):=t7
 clear m7 t7 X0 X1 X2
 obtain ⟨c0,c1,c2,c3,c4,c5,c6,c7,c8,c9,c10,c11,cf⟩:=hX2.out.box
 go_wp2_with fail
 refine (zp (Cx.mk ts fin true) gt cap base _ S6 q6 z6 0 cEq _ hi6.out.fst hm7.out).mono ?_
 rintro e w8 ⟨S8,q8,z8,rfl,i8,m8,s8⟩
 have hX0n : Hid (Bx gt S8 w8 _ _):=hX0.out.stp s8
 have hX1n : Hid (Bx gt S8 w8 _ _):=hX1.out.stp s8
 have hX2n : Hid (Bx gt S8 w8 _ _):=hX2.out.stp s8
 have ht8 : Hid (SB w.heap.size S w S8 w8):=ht7.out.step s8
 clear hX0 hX1 hX2 ht7
 have hX0 : Hid (Bx gt S8 w8 _ _):=hX0n
 have hX1 : Hid (Bx gt S8 w8 _ _):=hX1n
 have hX2 : Hid (Bx gt S8 w8 _ _):=hX2n
 clear hX0n hX1n hX2n
 have hm8 : Hid (Mem (Cx.mk ts fin true) gt cap base S8 q8 w8):=m8
 have hi8 : Hid (Is _ q8 z8):=i8
 clear i8 m8 s8 hm7
 clear c0 c1 c2 c3 c4 c5 c6 c7 c8 c9 c10 c11 cf
 go_wp2_with fail
 refine (zet (Cx.mk ts fin true) gt cap base _ S8 q8 z8 _ hi8.out hm8.out).mono ?_
 rintro e w9 ⟨S9,q9,z9,rfl,i9,m9,s9⟩
 have hX0n : Hid (Bx gt S9 w9 _ _):=hX0.out.stp s9
 have hX1n : Hid (Bx gt S9 w9 _ _):=hX1.out.stp s9
 have hX2n : Hid (Bx gt S9 w9 _ _):=hX2.out.stp s9
 have ht9 : Hid (SB w.heap.size S w S9 w9):=ht8.out.step s9
 clear hX0 hX1 hX2 ht8
 have hX0 : Hid (Bx gt S9 w9 _ _):=hX0n
 have hX1 : Hid (Bx gt S9 w9 _ _):=hX1n
 have hX2 : Hid (Bx gt S9 w9 _ _):=hX2n
 clear hX0n hX1n hX2n
 have hm9 : Hid (Mem (Cx.mk ts fin true) gt cap base S9 q9 w9):=m9
 have hi9 : Hid (Is _ q9 z9):=i9
 clear i9 m9 s9 hm8
 go_wp2_with fail
 refine (zp (Cx.mk ts fin true) gt cap base _ S9 q9 z9 0 cSemi _ hi9.out hm9.out).mono ?_
 rintro e w10 ⟨S10,q10,z10,rfl,i10,m10,s10⟩
 have hX0n : Hid (Bx gt S10 w10 _ _):=hX0.out.stp s10
 have hX1n : Hid (Bx gt S10 w10 _ _):=hX1.out.stp s10
 have hX2n : Hid (Bx gt S10 w10 _ _):=hX2.out.stp s10
 have ht10 : Hid (SB w.heap.size S w S10 w10):=ht9.out.step s10
 clear hX0 hX1 hX2 ht9
 have hX0 : Hid (Bx gt S10 w10 _ _):=hX0n
 have hX1 : Hid (Bx gt S10 w10 _ _):=hX1n
 have hX2 : Hid (Bx gt S10 w10 _ _):=hX2n
 clear hX0n hX1n hX2n
 have hm10 : Hid (Mem (Cx.mk ts fin true) gt cap base S10 q10 w10):=m10
 have hi10 : Hid (Is _ q10 z10):=i10
 clear i10 m10 s10 hm9
 go_wp2_with fail
 refine (zdy (Cx.mk ts fin true) gt cap base _ S10 q10 z10 0 3 n6 _ hi10.out hm10.out (zde hi10.out)).mono ?_
 rintro e w11 ⟨S11,q11,z11,rfl,i11,m11,s11⟩
 have hX0n : Hid (Bx gt S11 w11 _ _):=hX0.out.stp s11
 have hX1n : Hid (Bx gt S11 w11 _ _):=hX1.out.stp s11
 have hX2n : Hid (Bx gt S11 w11 _ _):=hX2.out.stp s11
 have ht11 : Hid (SB w.heap.size S w S11 w11):=ht10.out.step s11
 clear hX0 hX1 hX2 ht10
 have hX0 : Hid (Bx gt S11 w11 _ _):=hX0n
 have hX1 : Hid (Bx gt S11 w11 _ _):=hX1n
 have hX2 : Hid (Bx gt S11 w11 _ _):=hX2n
 clear hX0n hX1n hX2n
 have hm11 : Hid (Mem (Cx.mk ts fin true) gt cap base S11 q11 w11):=m11
 have hi11 : Hid (Is _ q11 z11):=i11
 clear i11 m11 s11 hm10
 obtain ⟨b0,b1,b2,b3,b4,b5,b6,b7,b8,b9,b10,b11,bf⟩:=hX1.out.box
 unfold pv
 go_wp2
 refine bodyPost_ret (results_cell_row rfl _ _ (w.heap.size + 1) 81 _ (0,0) _ rfl ((hX1.out.put _ _ _ _ _ _ _ _ _ _ _ _)).heap Tryz.underlying81 rfl (by kernel_rfl)) rfl ?_
 rw [HV.out,← hi6.out.bind (fun q n => bd (bd (bd (bd (.ok q) (tokP (Cx.mk ts fin true) 4 cEq)) (pE (Cx.mk ts fin true) .sum 0)) (tokP (Cx.mk ts fin true) 4 cSemi)) (zbz (Cx.mk ts fin true) 3 n)),← zxh]
 exact zw rfl hi11.out (hm11.out.put hX1.out _ _ _ _ _ _ _ _ _ _ _ _) (ht11.out.put (by omega) _ _ _ _ _ _ _ _ _ _ _ _)
theorem zys (ts : List Tk) (fin : Nat) (gt cap base : Nat) (S : Sv) (q : PS) (w : World) (hm : Mem (Cx.mk ts fin true) gt cap base S q w) :
  Calls Tryz.prog 46 #[pv (Cx.mk ts fin true) gt cap S q (-1) 0] w (Out (Cx.mk ts fin true) gt cap base (zbd (Cx.mk ts fin true) q) 0 S w):=by
 cases h0 : isT (Cx.mk ts fin true) q.pos 1 sLet with
 | true => exact zqo ts fin gt cap base S q w hm h0
 | false =>
  cases h1 : isT (Cx.mk ts fin true) q.pos 1 zq with
  | true => exact zma ts fin gt cap base S q w hm h0 h1
  | false =>
   cases h2 : isT (Cx.mk ts fin true) q.pos 1 zcc with
   | true => exact zoi ts fin gt cap base S q w hm h0 h1 h2
   | false =>
    cases h3 : isT (Cx.mk ts fin true) q.pos 1 zck with
    | true => exact zoj ts fin gt cap base S q w hm h0 h1 h2 h3
    | false =>
     cases h4 : isT (Cx.mk ts fin true) q.pos 1 zgg with
     | true => exact zpe ts fin gt cap base S q w hm h0 h1 h2 h3 h4
     | false =>
      exact zro ts fin gt cap base S q w hm h0 h1 h2 h3 h4
end Go.Proofs.YtgchhhmfloemlaaGreat
