/-
 What spec.l1Spoil tells: the walk.
-/
import Derived.Test.YthfeoomfiafldaaGreatCdDrawBaseToDrawText
namespace Go.Proofs.YthfeoomfiafldaaGreat
set_option maxHeartbeats 3200000
open Go.RowKit Go.PlainAid
theorem znH {S:Src} {q:Nat×Int} {s:ByteArray} (h:s.size=0):zbm S q s=(strOfNums (tx S q 3).1,(tx S q 3).2):=by rw[zbm,if_pos h]
theorem znI {S:Src} {q:Nat×Int} {s:ByteArray} {k:Nat} (h:s.size≠0) (o:(bw S q s.size).1=k) (j:(bw S (bw S q s.size).2 4).1=0):zbm S q s=(s.extract 0 k++s.extract (k+1) s.size,(bw S (bw S q s.size).2 4).2):=by
 rw[zbm,if_neg h,if_pos j,o];rfl
theorem znJ {S:Src} {q:Nat×Int} {s:ByteArray} {k:Nat} (h:s.size≠0) (o:(bw S q s.size).1=k) (j:(bw S (bw S q s.size).2 4).1=1):zbm S q s=(s.extract 0 k++strOfNums [(cb S (bw S (bw S q s.size).2 4).2).1]++s.extract k s.size,(cb S (bw S (bw S q s.size).2 4).2).2):=by
 rw[zbm,if_neg h,if_neg (by omega),if_pos j,o];rfl
theorem znK {S:Src} {q:Nat×Int} {s:ByteArray} {k:Nat} (h:s.size≠0) (o:(bw S q s.size).1=k) (j:(bw S (bw S q s.size).2 4).1=2):zbm S q s=(s.extract 0 k,(bw S (bw S q s.size).2 4).2):=by
 rw[zbm,if_neg h,if_neg (by omega),if_neg (by omega),if_pos j,o];rfl
theorem znL {S:Src} {q:Nat×Int} {s:ByteArray} {k:Nat} (h:s.size≠0) (j:(bw S q s.size).1=k) (o:(bw S (bw S q s.size).2 4).1≠0) (D:(bw S (bw S q s.size).2 4).1≠1) (z:(bw S (bw S q s.size).2 4).1≠2):
  zbm S q s=(s.extract 0 k++strOfNums [IntKind.u8.wrap (bits .xor .i64 (bt s k) (1+(bw S (bw S (bw S q s.size).2 4).2 255).1))]++s.extract (k+1) s.size,(bw S (bw S (bw S q s.size).2 4).2 255).2):=by
 rw[zbm,if_neg h,if_neg o,if_neg D,if_neg z,j];rfl
theorem znM (S:Src) (K:S.ok) (g:Nat) (q:Nat×Int) (s:ByteArray) (w:World) (Z:zae 83 S w g q) (hs:s.size≤100000):
  Calls Tryz.prog 33 #[.pointer (some ⟨g,0,none⟩),.string s] w fun e w'=>e= .returned (.string (zbm S q s).1)∧zae 83 S w' g (zbm S q s).2∧w.grownBy w' (some g):=by
 by_cases L:s.size=0
 ·have H:Hid (zbm S q s=(strOfNums (tx S q 3).1,(tx S q 3).2)):=znH L
  have hq:((s.size:Int)==0)=true:=by rw[L];rfl
  clear L
  go_enter Tryz.func33,Tryz.ntmps33
  go_wp2_with fail
  refine (znG S K g q 3 _ Z (by omega) (by omega)).mono ?_
  rintro e w1 ⟨rfl,o,j⟩
  go_wp2
  go_ret
  exact⟨zdF (by rw[H.out]),by rw[H.out];exact o,j⟩
 ·have hq:((s.size:Int)==0)=false:=beq_eq_false_iff_ne.2 (by omega)
  have ab:=zcB S q s.size (by omega)
  obtain⟨k,N⟩: ∃k:Nat,(bw S q s.size).1=k:=⟨(bw S q s.size).1.toNat,by omega⟩
  have HK:Hid ((bw S q s.size).1=k):=N
  have af:k<s.size:=by omega
  have ae:=zcB S (bw S q s.size).2 4 (by omega)
  have hb:=get_bt s
  have ad:=bt_nonneg s k
  have ag:=bt_le s k
  have e1:IntKind.i64.wrap ((k:Int)+1)=(k:Int)+1:=IntWalk.i64_in _ ⟨by omega,by omega⟩
  have e2:IntKind.i64.wrap (bt s k)=bt s k:=IntWalk.i64_in _ ⟨by omega,by omega⟩
  have l1:(0:Int)≤(k:Int):=by omega
  have l2:(k:Int)≤s.size:=by omega
  have l3:(0:Int)≤(k:Int)+1:=by omega
  have l4:(k:Int)+1≤s.size:=by omega
  have z1:(s.extract 0 k).size≤100000:=by simp;omega
  have z2:(s.extract (k+1) s.size).size≤100000:=by simp;omega
  have z3:(s.extract k s.size).size≤100000:=by simp;omega
  have ah:=fun (w:World) (x:Int)=>zhx (P:=Tryz.prog) (src:=22) (dst:=9) Tryz.underlying22 Tryz.underlying5 Tryz.underlying9 w x
  have ac:=fun x=>strOfNums_size [x]
  have y1: ¬(9223372036854775807<min k s.size+1):=by omega
  have y2: ¬(9223372036854775807<min k s.size+1+(s.size-k)):=by omega
  have y3: ¬(9223372036854775807<min k s.size+1+(s.size-(k+1))):=by omega
  clear ab
  by_cases O:(bw S (bw S q s.size).2 4).1=0
  ·have H:Hid (zbm S q s=(s.extract 0 k++s.extract (k+1) s.size,(bw S (bw S q s.size).2 4).2)):=znI L N O
   have q0:((bw S (bw S q s.size).2 4).1==0)=true:=by simpa using O
   clear N O L
   go_enter Tryz.func33,Tryz.ntmps33
   go_wp2_with fail
   refine (zbI S K g q s.size _ Z (by omega)).mono ?_
   rintro e w1 ⟨rfl,o,j⟩
   rw[HK.out]
   go_wp2_with fail
   refine (zbI S K g _ 4 _ o (by omega)).mono ?_
   rintro e X ⟨rfl,z,E⟩
   go_wp2
   go_quiet (fail)
   go_wp2
   go_ret
   exact⟨zdF (by rw[H.out]),by rw[H.out];exact zgs z _,zeH (zN j E) _⟩
  ·have q0:((bw S (bw S q s.size).2 4).1==0)=false:=by simpa using O
   by_cases Q:(bw S (bw S q s.size).2 4).1=1
   ·have H:Hid (zbm S q s=(s.extract 0 k++strOfNums [(cb S (bw S (bw S q s.size).2 4).2).1]++s.extract k s.size,(cb S (bw S (bw S q s.size).2 4).2).2)):=znJ L N Q
    have q1:((bw S (bw S q s.size).2 4).1==1)=true:=by simpa using Q
    have aa:=zdV S (bw S (bw S q s.size).2 4).2
    have e3:IntKind.u8.wrap (cb S (bw S (bw S q s.size).2 4).2).1=(cb S (bw S (bw S q s.size).2 4).2).1:=IntWalk.u8_in _ aa
    have z4:(s.extract 0 k++strOfNums [(cb S (bw S (bw S q s.size).2 4).2).1]).size≤100001:=by rw[ByteArray.size_append,strOfNums_size];simp;omega
    clear N O Q L
    go_enter Tryz.func33,Tryz.ntmps33
    go_wp2_with fail
    refine (zbI S K g q s.size _ Z (by omega)).mono ?_
    rintro e w1 ⟨rfl,o,j⟩
    rw[HK.out]
    go_wp2_with fail
    refine (zbI S K g _ 4 _ o (by omega)).mono ?_
    rintro e X ⟨rfl,z,E⟩
    go_wp2
    have J:zae 83 S X.drew g (bw S (bw S q s.size).2 4).2:=zgr z fun _ _=>rfl
    have I:w.grownBy X.drew (some g):=zeH (zN j E) 1
    have U:=zdW J
    go_region_law (go_simp;go_wp2_with (go_at_call 77;refine (zdu S K g _ _ J).mono ?_;rintro e M ⟨rfl,V,D⟩))
    all_goals
     go_wp2
     go_ret
     refine⟨zdF (by rw[H.out]),?_,zdH (zN I D) ((Below.refl M.heap.size M).alloc (Nat.le_refl _) _) (Nat.le_trans I.size D.size)⟩
     rw[H.out]
     exact zdt V ((Below.refl M.heap.size M).alloc (Nat.le_refl _) _) (Nat.lt_of_lt_of_le U D.size)
   ·have q1:((bw S (bw S q s.size).2 4).1==1)=false:=by simpa using Q
    by_cases Y:(bw S (bw S q s.size).2 4).1=2
    ·have H:Hid (zbm S q s=(s.extract 0 k,(bw S (bw S q s.size).2 4).2)):=znK L N Y
     have q2:((bw S (bw S q s.size).2 4).1==2)=true:=by simpa using Y
     clear N O Q Y L
     go_enter Tryz.func33,Tryz.ntmps33
     go_wp2_with fail
     refine (zbI S K g q s.size _ Z (by omega)).mono ?_
     rintro e w1 ⟨rfl,o,j⟩
     rw[HK.out]
     go_wp2_with fail
     refine (zbI S K g _ 4 _ o (by omega)).mono ?_
     rintro e X ⟨rfl,z,E⟩
     go_wp2
     go_ret
     exact⟨zdF (by rw[H.out]),by rw[H.out];exact z,zN j E⟩
    ·have q2:((bw S (bw S q s.size).2 4).1==2)=false:=by simpa using Y
     have H:Hid (zbm S q s=(s.extract 0 k++strOfNums [IntKind.u8.wrap (bits .xor .i64 (bt s k) (1+(bw S (bw S (bw S q s.size).2 4).2 255).1))]++s.extract (k+1) s.size,(bw S (bw S (bw S q s.size).2 4).2 255).2)):=znL L N O Q Y
     have aa:=zcB S (bw S (bw S q s.size).2 4).2 255 (by omega)
     have e3:IntKind.i64.wrap (1+(bw S (bw S (bw S q s.size).2 4).2 255).1)=1+(bw S (bw S (bw S q s.size).2 4).2 255).1:=IntWalk.i64_in _ ⟨by omega,by omega⟩
     have z4:(s.extract 0 k++strOfNums [IntKind.u8.wrap (bits .xor .i64 (bt s k) (1+(bw S (bw S (bw S q s.size).2 4).2 255).1))]).size≤100001:=by rw[ByteArray.size_append,strOfNums_size];simp;omega
     clear N O Q Y L
     go_enter Tryz.func33,Tryz.ntmps33
     go_wp2_with fail
     refine (zbI S K g q s.size _ Z (by omega)).mono ?_
     rintro e w1 ⟨rfl,o,j⟩
     rw[HK.out]
     go_wp2_with fail
     refine (zbI S K g _ 4 _ o (by omega)).mono ?_
     rintro e X ⟨rfl,z,E⟩
     go_wp2
     have J:zae 83 S X.drew g (bw S (bw S q s.size).2 4).2:=zgr z fun _ _=>rfl
     have I:w.grownBy X.drew (some g):=zeH (zN j E) 1
     have U:=zdW J
     go_region_law (go_simp;go_wp2_with (go_at_call 31;refine (zbI S K g _ 255 _ J (by omega)).mono ?_;rintro e M ⟨rfl,V,D⟩))
     all_goals
      go_wp2
      go_ret
      refine⟨zdF (by rw[H.out]),?_,zdH (zN I D) ((Below.refl M.heap.size M).alloc (Nat.le_refl _) _) (Nat.le_trans I.size D.size)⟩
      rw[H.out]
      exact zdt V ((Below.refl M.heap.size M).alloc (Nat.le_refl _) _) (Nat.lt_of_lt_of_le U D.size)
end Go.Proofs.YthfeoomfiafldaaGreat