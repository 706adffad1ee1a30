/-
 What spec.l1Spoil tells: the walk.
-/
import Derived.Test.YticdggnnpjachaaGreatCbDrawBaseToDrawText
namespace Go.Proofs.YticdggnnpjachaaGreat
set_option maxHeartbeats 3200000
open Go.RowKit Go.PlainAid
theorem zli {S:Src} {q:Nat×Int} {s:ByteArray} (h:s.size=0):zaW S q s=(strOfNums (tx S q 3).1,(tx S q 3).2):=by rw[zaW,if_pos h]
theorem zlj {S:Src} {q:Nat×Int} {s:ByteArray} {k:Nat} (h:s.size≠0) (j:(bw S q s.size).1=k) (n:(bw S (bw S q s.size).2 4).1=0):zaW S q s=(s.extract 0 k++s.extract (k+1) s.size,(bw S (bw S q s.size).2 4).2):=by
 rw[zaW,if_neg h,if_pos n,j];rfl
theorem zlk {S:Src} {q:Nat×Int} {s:ByteArray} {k:Nat} (h:s.size≠0) (j:(bw S q s.size).1=k) (n:(bw S (bw S q s.size).2 4).1=1):zaW S q s=(s.extract 0 k++strOfNums [(cb S (bw S (bw S q s.size).2 4).2).1]++s.extract k s.size,(cb S (bw S (bw S q s.size).2 4).2).2):=by
 rw[zaW,if_neg h,if_neg (by omega),if_pos n,j];rfl
theorem zll {S:Src} {q:Nat×Int} {s:ByteArray} {k:Nat} (h:s.size≠0) (j:(bw S q s.size).1=k) (n:(bw S (bw S q s.size).2 4).1=2):zaW S q s=(s.extract 0 k,(bw S (bw S q s.size).2 4).2):=by
 rw[zaW,if_neg h,if_neg (by omega),if_neg (by omega),if_pos n,j];rfl
theorem zlm {S:Src} {q:Nat×Int} {s:ByteArray} {k:Nat} (h:s.size≠0) (n:(bw S q s.size).1=k) (z:(bw S (bw S q s.size).2 4).1≠0) (j:(bw S (bw S q s.size).2 4).1≠1) (o:(bw S (bw S q s.size).2 4).1≠2):
  zaW S q s=(s.extract 0 k++strOfNums [IntKind.u8.wrap (bits .xor .i64 (bt s k) (1+(bw S (bw S (bw S q s.size).2 4).2 255).1))]++s.extract (k+1) s.size,(bw S (bw S (bw S q s.size).2 4).2 255).2):=by
 rw[zaW,if_neg h,if_neg z,if_neg j,if_neg o,n];rfl
theorem zln (S:Src) (E:S.ok) (g:Nat) (q:Nat×Int) (s:ByteArray) (w:World) (Y:zR 147 S w g q) (hs:s.size≤100000):
  Calls Tryz.prog 157 #[.pointer (some ⟨g,0,none⟩),.string s] w fun e w'=>e= .returned (.string (zaW S q s).1)∧zR 147 S w' g (zaW S q s).2∧w.grownBy w' (some g):=by
 by_cases H:s.size=0
 ·have D:Hid (zaW S q s=(strOfNums (tx S q 3).1,(tx S q 3).2)):=zli H
  have hq:((s.size:Int)==0)=true:=by rw[H];rfl
  clear H
  go_enter Tryz.func157,Tryz.ntmps157
  go_wp2_with fail
  refine (zlh S E g q 3 _ Y (by omega) (by omega)).mono ?_
  rintro e Z ⟨rfl,j,n⟩
  go_wp2
  go_ret
  exact⟨za2 (by rw[D.out]),by rw[D.out];exact j,n⟩
 ·have hq:((s.size:Int)==0)=false:=beq_eq_false_iff_ne.2 (by omega)
  have aa:=zaV S q s.size (by omega)
  obtain⟨k,K⟩: ∃k:Nat,(bw S q s.size).1=k:=⟨(bw S q s.size).1.toNat,by omega⟩
  have HK:Hid ((bw S q s.size).1=k):=K
  have ad:k<s.size:=by omega
  have ag:=zaV S (bw S q s.size).2 4 (by omega)
  have hb:=get_bt s
  have ae:=bt_nonneg s k
  have af:=bt_le s k
  have e1:IntKind.i64.wrap ((k:Int)+1)=(k:Int)+1:=IntWalk.i64_in _ ⟨by omega,by omega⟩
  have e2:IntKind.i64.wrap (bt s k)=bt s k:=IntWalk.i64_in _ ⟨by omega,by omega⟩
  have l1:(0:Int)≤(k:Int):=by omega
  have l2:(k:Int)≤s.size:=by omega
  have l3:(0:Int)≤(k:Int)+1:=by omega
  have l4:(k:Int)+1≤s.size:=by omega
  have z1:(s.extract 0 k).size≤100000:=by simp;omega
  have z2:(s.extract (k+1) s.size).size≤100000:=by simp;omega
  have z3:(s.extract k s.size).size≤100000:=by simp;omega
  have ac:=fun (w:World) (x:Int)=>zfW (P:=Tryz.prog) (src:=44) (dst:=9) Tryz.underlying44 Tryz.underlying5 Tryz.underlying9 w x
  have ab:=fun x=>strOfNums_size [x]
  have y1: ¬(9223372036854775807<min k s.size+1):=by omega
  have y2: ¬(9223372036854775807<min k s.size+1+(s.size-k)):=by omega
  have y3: ¬(9223372036854775807<min k s.size+1+(s.size-(k+1))):=by omega
  clear aa
  by_cases M:(bw S (bw S q s.size).2 4).1=0
  ·have D:Hid (zaW S q s=(s.extract 0 k++s.extract (k+1) s.size,(bw S (bw S q s.size).2 4).2)):=zlj H K M
   have q0:((bw S (bw S q s.size).2 4).1==0)=true:=by simpa using M
   clear K M H
   go_enter Tryz.func157,Tryz.ntmps157
   go_wp2_with fail
   refine (zaD S E g q s.size _ Y (by omega)).mono ?_
   rintro e Z ⟨rfl,j,n⟩
   rw[HK.out]
   go_wp2_with fail
   refine (zaD S E g _ 4 _ j (by omega)).mono ?_
   rintro e O ⟨rfl,A,z⟩
   go_wp2
   go_quiet (fail)
   go_wp2
   go_ret
   exact⟨za2 (by rw[D.out]),by rw[D.out];exact zfl A _,zdN (zB n z) _⟩
  ·have q0:((bw S (bw S q s.size).2 4).1==0)=false:=by simpa using M
   by_cases Q:(bw S (bw S q s.size).2 4).1=1
   ·have D:Hid (zaW S q s=(s.extract 0 k++strOfNums [(cb S (bw S (bw S q s.size).2 4).2).1]++s.extract k s.size,(cb S (bw S (bw S q s.size).2 4).2).2)):=zlk H K Q
    have q1:((bw S (bw S q s.size).2 4).1==1)=true:=by simpa using Q
    have X:=zdt S (bw S (bw S q s.size).2 4).2
    have e3:IntKind.u8.wrap (cb S (bw S (bw S q s.size).2 4).2).1=(cb S (bw S (bw S q s.size).2 4).2).1:=IntWalk.u8_in _ X
    have z4:(s.extract 0 k++strOfNums [(cb S (bw S (bw S q s.size).2 4).2).1]).size≤100001:=by rw[ByteArray.size_append,strOfNums_size];simp;omega
    clear K M Q H
    go_enter Tryz.func157,Tryz.ntmps157
    go_wp2_with fail
    refine (zaD S E g q s.size _ Y (by omega)).mono ?_
    rintro e Z ⟨rfl,j,n⟩
    rw[HK.out]
    go_wp2_with fail
    refine (zaD S E g _ 4 _ j (by omega)).mono ?_
    rintro e O ⟨rfl,A,z⟩
    go_wp2
    have I:zR 147 S O.drew g (bw S (bw S q s.size).2 4).2:=zbS A fun _ _=>rfl
    have J:w.grownBy O.drew (some g):=zdN (zB n z) 1
    have N:=zcB I
    go_region_law (go_simp;go_wp2_with (go_at_call 155;refine (zcW S E g _ _ I).mono ?_;rintro e L ⟨rfl,U,o⟩))
    all_goals
     go_wp2
     go_ret
     refine⟨za2 (by rw[D.out]),?_,zcV (zB J o) ((Below.refl L.heap.size L).alloc (Nat.le_refl _) _) (Nat.le_trans J.size o.size)⟩
     rw[D.out]
     exact zcC U ((Below.refl L.heap.size L).alloc (Nat.le_refl _) _) (Nat.lt_of_lt_of_le N o.size)
   ·have q1:((bw S (bw S q s.size).2 4).1==1)=false:=by simpa using Q
    by_cases V:(bw S (bw S q s.size).2 4).1=2
    ·have D:Hid (zaW S q s=(s.extract 0 k,(bw S (bw S q s.size).2 4).2)):=zll H K V
     have q2:((bw S (bw S q s.size).2 4).1==2)=true:=by simpa using V
     clear K M Q V H
     go_enter Tryz.func157,Tryz.ntmps157
     go_wp2_with fail
     refine (zaD S E g q s.size _ Y (by omega)).mono ?_
     rintro e Z ⟨rfl,j,n⟩
     rw[HK.out]
     go_wp2_with fail
     refine (zaD S E g _ 4 _ j (by omega)).mono ?_
     rintro e O ⟨rfl,A,z⟩
     go_wp2
     go_ret
     exact⟨za2 (by rw[D.out]),by rw[D.out];exact A,zB n z⟩
    ·have q2:((bw S (bw S q s.size).2 4).1==2)=false:=by simpa using V
     have D:Hid (zaW S q s=(s.extract 0 k++strOfNums [IntKind.u8.wrap (bits .xor .i64 (bt s k) (1+(bw S (bw S (bw S q s.size).2 4).2 255).1))]++s.extract (k+1) s.size,(bw S (bw S (bw S q s.size).2 4).2 255).2)):=zlm H K M Q V
     have X:=zaV S (bw S (bw S q s.size).2 4).2 255 (by omega)
     have e3:IntKind.i64.wrap (1+(bw S (bw S (bw S q s.size).2 4).2 255).1)=1+(bw S (bw S (bw S q s.size).2 4).2 255).1:=IntWalk.i64_in _ ⟨by omega,by omega⟩
     have z4:(s.extract 0 k++strOfNums [IntKind.u8.wrap (bits .xor .i64 (bt s k) (1+(bw S (bw S (bw S q s.size).2 4).2 255).1))]).size≤100001:=by rw[ByteArray.size_append,strOfNums_size];simp;omega
     clear K M Q V H
     go_enter Tryz.func157,Tryz.ntmps157
     go_wp2_with fail
     refine (zaD S E g q s.size _ Y (by omega)).mono ?_
     rintro e Z ⟨rfl,j,n⟩
     rw[HK.out]
     go_wp2_with fail
     refine (zaD S E g _ 4 _ j (by omega)).mono ?_
     rintro e O ⟨rfl,A,z⟩
     go_wp2
     have I:zR 147 S O.drew g (bw S (bw S q s.size).2 4).2:=zbS A fun _ _=>rfl
     have J:w.grownBy O.drew (some g):=zdN (zB n z) 1
     have N:=zcB I
     go_region_law (go_simp;go_wp2_with (go_at_call 109;refine (zaD S E g _ 255 _ I (by omega)).mono ?_;rintro e L ⟨rfl,U,o⟩))
     all_goals
      go_wp2
      go_ret
      refine⟨za2 (by rw[D.out]),?_,zcV (zB J o) ((Below.refl L.heap.size L).alloc (Nat.le_refl _) _) (Nat.le_trans J.size o.size)⟩
      rw[D.out]
      exact zcC U ((Below.refl L.heap.size L).alloc (Nat.le_refl _) _) (Nat.lt_of_lt_of_le N o.size)
end Go.Proofs.YticdggnnpjachaaGreat