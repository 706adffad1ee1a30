/-
 What impl.ReadDec answers: the walk.
-/
import Derived.Test.YticdggnnpjachaaGreatCbImplLexAToReadDecMath
import Derived.WalkMore
namespace Go.Proofs.YticdggnnpjachaaGreat
set_option maxHeartbeats 1600000
open Go.RowKit Go.PlainAid
theorem zka (x:Int) (n:0≤x) (o:x≤255) (c:Nat) (j:c<256):UInt8.ofNat x.toNat=UInt8.ofNat c↔x=c:=by
 constructor
 ·intro h
  have:=congrArg UInt8.toNat h
  simp only[UInt8.toNat_ofNat'] at this
  omega
 ·intro h
  rw[h]
  rfl
theorem zqQ (s:ByteArray) (h:1≤s.size):((s.extract 0 1).toList==[45])=decide (bt s 0=45):=by
 rw[zhy s 1 h,Lib.toList_data,strOfNums_data]
 simp only[bsl,List.map_cons,List.map_nil]
 rw[Bool.eq_iff_iff,beq_iff_eq,decide_eq_true_eq]
 have:=zka (bt s 0) (bt_nonneg s 0) (bt_le s 0) 45 (by decide)
 simp only[List.cons.injEq,and_true]
 exact this
theorem zkb (s:ByteArray) (w:World) (_:s.size≤9223372036854775807):
  Calls Tryz.prog 140 #[.string s,.string {data:=#[45]}] w fun e n=>e= .returned (.bool (decide (bt s 0=45)))∧n=w:=by
 by_cases h:1≤s.size
 ·have j:Hid (((s.extract 0 1).toList==[45])=decide (bt s 0=45)):=zqQ s h
  go_enter Tryz.func140,Tryz.ntmps140
  go_wp2
  go_ret
  exact⟨zm j.out,rfl⟩
 ·have j:Hid (decide (bt s 0=45)=false):=by show decide (bt s 0=45)=false;rw[bt_end s (by omega)];rfl
  go_enter Tryz.func140,Tryz.ntmps140
  go_wp2
  go_ret
  exact⟨zm j.out.symm,rfl⟩
theorem zqR (s:ByteArray) (w:World) (n:s.size≤9223372036854775807) (h:decide (bt s 0=45)=false):
  Calls Tryz.prog 193 #[.string s,.string {data:=#[45]}] w fun e j=>e= .returned (.tuple #[.string s,.bool false])∧j=w:=by
 go_enter Tryz.func193,Tryz.ntmps193
 go_wp2_with fail
 refine (zkb _ _ n).mono ?_
 rintro e j ⟨rfl,rfl⟩
 go_wp2
 go_ret2
 exact⟨rfl,rfl⟩
theorem zqS (s:ByteArray) (w:World) (n:s.size≤9223372036854775807) (h:decide (bt s 0=45)=true) (o:1≤s.size):
  Calls Tryz.prog 193 #[.string s,.string {data:=#[45]}] w fun e j=>e= .returned (.tuple #[.string (s.extract 1 s.size),.bool true])∧j=w:=by
 go_enter Tryz.func193,Tryz.ntmps193
 go_wp2_with fail
 refine (zkb _ _ n).mono ?_
 rintro e j ⟨rfl,rfl⟩
 go_wp2
 go_ret2
 exact⟨rfl,rfl⟩
theorem zhn (s:ByteArray) (w:World) (n:s.size≤9223372036854775807) (h:decide (bt s 0=45)=false):
  Calls Tryz.prog 170 #[.string s,.string {data:=#[45]}] w fun e j=>e= .returned (.tuple #[.string s,.bool false])∧j=w:=by
 go_enter Tryz.func170,Tryz.ntmps170
 go_wp2_with fail
 refine (zqR _ _ n h).mono ?_
 rintro e j ⟨rfl,rfl⟩
 go_wp2
 go_ret2
 exact⟨rfl,rfl⟩
theorem zqT (s:ByteArray) (w:World) (o:s.size≤9223372036854775807) (h:decide (bt s 0=45)=true) (n:1≤s.size):
  Calls Tryz.prog 170 #[.string s,.string {data:=#[45]}] w fun e j=>e= .returned (.tuple #[.string (s.extract 1 s.size),.bool true])∧j=w:=by
 go_enter Tryz.func170,Tryz.ntmps170
 go_wp2_with fail
 refine (zqS _ _ o h n).mono ?_
 rintro e j ⟨rfl,rfl⟩
 go_wp2
 go_ret2
 exact⟨rfl,rfl⟩
theorem zkc (s:ByteArray) (h:bt s (pfx s)=48):(s.toList==[48])=true↔(pfx s=0∧s.size=1):=by
 have e:s.toList=(bsl s 0 s.size).map (fun n=>UInt8.ofNat n.toNat):=by
  rw[Lib.toList_data,←strOfNums_data,←zkx s]
 rw[e,beq_iff_eq]
 constructor
 ·intro k
  have j:=congrArg List.length k
  rw[List.length_map,zkt] at j
  have o:s.size=1:=by simpa using j
  rw[o] at k
  simp only[bsl,List.map_cons,List.map_nil,List.cons.injEq,and_true] at k
  have:=(zka (bt s 0) (bt_nonneg s 0) (bt_le s 0) 48 (by decide)).1 k
  refine⟨?_,o⟩
  unfold pfx
  rw[if_neg (by omega)]
 ·rintro⟨z,q⟩
  rw[z] at h
  rw[q]
  simp[bsl,h]
def zcS (s:ByteArray) (k:Nat):Prop:=(∀j,j<k→zdI (bt s (pfx s+j)))∧(1≤k→bt s (pfx s)≠48∨(pfx s=0∧s.size=1))
theorem zqU (s:ByteArray):zcS s 0:=⟨fun _ h=>by omega,fun h=>by omega⟩
theorem zqV {s:ByteArray} {k:Nat} (h:zcS s k) (o:k=s.size-pfx s) (j:1≤k) (n:k≤9):RdP s:=by
 subst o
 exact⟨j,n,h.1,h.2 j⟩
theorem zho {s:ByteArray} {k:Nat} (h:zcS s k) (n:48≤bt s (pfx s+k)∧bt s (pfx s+k)≤57) (o:k=0→bt s (pfx s)≠48∨(pfx s=0∧s.size=1)):zcS s (k+1):=by
 refine⟨fun j q=>?_,fun _=>?_⟩
 ·by_cases e:j=k
  ·rw[e];exact n
  ·exact h.1 j (by omega)
 ·by_cases e:k=0
  ·exact o e
  ·exact h.2 (by omega)
theorem zqW {s:ByteArray} {k:Nat} (n:k<s.size-pfx s) (j: ¬(48≤bt s (pfx s+k)∧bt s (pfx s+k)≤57)): ¬RdP s:=fun h=>j (h.2.2.1 k n)
theorem zqX {s:ByteArray} (j:bt s (pfx s)=48) (h: ¬(pfx s=0∧s.size=1)): ¬RdP s:=fun k=>by
 rcases k.2.2.2 with e|e
 ·exact e j
 ·exact h e
theorem zqY {s:ByteArray} {k:Nat} (h:zcS s k) (j:k≤9):0≤dv s (pfx s) k∧dv s (pfx s) k≤1000000000:=by
 have a:=zqC s (pfx s) k h.1
 have b:=zqD k j
 omega
theorem zqZ {s:ByteArray} (h:RdP s):rdV s=if pfx s=1 then-dv s (pfx s) (s.size-pfx s) else dv s (pfx s) (s.size-pfx s):=by
 rw[rdV,if_pos (zfe h)]
 by_cases e:bt s 0=45
 ·have j:pfx s=1:=by simp[pfx,e]
  rw[j,if_pos rfl,if_pos rfl]
 ·have j:pfx s=0:=by simp[pfx,e]
  rw[j]
  rfl
theorem zkd (s t:ByteArray) (b:Bool) (w:World) (L:b=decide (pfx s=1)) (M: ∀k,bt t k=bt s (pfx s+k)) (O:t.size=s.size-pfx s)
  (hc: ∀w,Calls Tryz.prog 170 #[.string s,.string {data:=#[45]}] w fun e I=>e= .returned (.tuple #[.string t,.bool b])∧I=w) (h1:1≤t.size) (h9:t.size≤9):
  Calls Tryz.prog 142 #[.string s] w fun e I=>e= .returned (.tuple #[.int .i64 (rdV s),.bool (zeu s)])∧I=w:=by
 have HC:Hid (∀w,Calls Tryz.prog 170 #[.string s,.string {data:=#[45]}] w fun e I=>e= .returned (.tuple #[.string t,.bool b])∧I=w):=hc
 have D:Hid (∀k,bt t k=bt s (pfx s+k)):=M
 have H:Hid (t.size=s.size-pfx s):=O
 have Y:Hid (b=decide (pfx s=1)):=L
 clear hc M O L
 have t1:(1:Int)≤t.size:=by omega
 have t9:(t.size:Int)≤9:=by omega
 cases b
 all_goals
  go_enter Tryz.func142,Tryz.ntmps142
  go_wp2
  go_step3
  go_wp2_with (go_at_call 170;refine (HC.out _).mono ?_;rintro e I ⟨rfl,rfl⟩)
  go_step3
  go_wp2
  go_loop [6,7,25] (fun n o i=>∃k:Nat,k≤t.size∧i= .int .i64 k∧n= .int .i64 (dv s (pfx s) k)∧o= .bool true∧zcS s k) (fun _ _ i=>(t.size-intOf i).toNat)
  case atStart=>exact⟨0,by omega,rfl,rfl,rfl,zqU s⟩
  case round=>
   obtain⟨k,hk,rfl,rfl,rfl,E⟩:=hrel
   have X:Hid (zcS s k):=E
   have hv:=zqY E (by omega)
   clear E
   by_cases aa:k<t.size
   ·have ae:=bt_nonneg t k
    have af:=bt_le t k
    have hb:=get_bt t
    by_cases U:48≤bt t k∧bt t k≤57
    ·obtain⟨A,q⟩:=U
     have HD:Hid (dv s (pfx s) (k+1)=10*dv s (pfx s) k+(bt t k-48)):=by
      show dv s (pfx s) (k+1)=_
      rw[dv,D.out k];omega
     by_cases N:(bt t k-48==0)=true
     ·by_cases z:((k:Int)==0)=true
      ·have V:k=0:=by simpa using z
       have J:bt s (pfx s)=48:=by
        have K:=D.out k
        rw[V] at K
        rw[V] at N
        have e2:bt t 0-48=0:=by simpa using N
        rw[Nat.add_zero] at K
        omega
       by_cases Q:(s.toList==[48])=true
       ·have j:Hid (zcS s (k+1)):=zho X.out (by rw[←D.out k];exact⟨A,q⟩) (fun _=>.inr ((zkc s J).1 Q))
        clear V J
        go_wp2
        go_round
        case rel=>exact⟨k+1,by omega,by go_num,by rw[HD.out],rfl,j.out⟩
        case measure=>simp[intOf];omega
       ·have j:Hid (¬RdP s):=zqX J (fun h=>Q ((zkc s J).2 h))
        have ad:(s.toList==[48])=false:=by simpa using Q
        clear V J Q
        go_wp2
        go_ret2
        exact⟨zdj (by rw[zdJ j.out]) (zdi j.out).symm,rfl⟩
      ·have j:Hid (zcS s (k+1)):=zho X.out (by rw[←D.out k];exact⟨A,q⟩) (fun e=>absurd (show ((k:Int)==0)=true by rw[e];rfl) z)
       have ab:((k:Int)==0)=false:=by simpa using z
       clear z
       go_wp2
       go_round
       case rel=>exact⟨k+1,by omega,by go_num,by rw[HD.out],rfl,j.out⟩
       case measure=>simp[intOf];omega
     ·have j:Hid (zcS s (k+1)):=zho X.out (by rw[←D.out k];exact⟨A,q⟩) (fun e=>by
       left
       intro Z
       apply N
       have K:=D.out k
       rw[e,Nat.add_zero] at K
       rw[e,K,Z]
       rfl)
      have ac:(bt t k-48==0)=false:=by simpa using N
      clear N
      go_wp2
      go_round
      case rel=>exact⟨k+1,by omega,by go_num,by rw[HD.out],rfl,j.out⟩
      case measure=>simp[intOf];omega
    ·have j:Hid (¬RdP s):=zqW (k:=k) (by rw[←H.out];exact aa) (by rw[←D.out k];exact U)
     by_cases A:48≤bt t k
     ·have q:57<bt t k:=by omega
      clear U
      go_wp2
      go_ret2
      exact⟨zdj (by rw[zdJ j.out]) (zdi j.out).symm,rfl⟩
     ·clear U
      go_wp2
      go_ret2
      exact⟨zdj (by rw[zdJ j.out]) (zdi j.out).symm,rfl⟩
   ·have HY:Hid (RdP s):=zqV X.out (by rw[←H.out];omega) (by omega) (by omega)
    have HK:Hid (k=s.size-pfx s):=by show k=s.size-pfx s;rw[←H.out];omega
    go_wp2
    go_ret2
    refine⟨zdj ?_ (zfe HY.out).symm,rfl⟩
    rw[zqZ HY.out,HK.out]
    have:=Y.out
    simp at this
    simp[this]
theorem zra (s:ByteArray) (k:Nat):bt (s.extract 1 s.size) k=bt s (1+k):=by
 rw[zdk,zdk,Lib.extract_data,List.take_of_length_le (by rw[List.length_drop,Array.length_toList];exact Nat.le_refl _),List.map_drop]
 simp only[List.getD,List.getElem?_drop]
theorem zrb (s:ByteArray):(s.extract 1 s.size).size=s.size-1:=by simp
theorem zrc (s:ByteArray) (w:World) (E:s.size≤9223372036854775807):
  Calls Tryz.prog 142 #[.string s] w fun e o=>e= .returned (.tuple #[.int .i64 (rdV s),.bool (zeu s)])∧o=w:=by
 by_cases z:bt s 0=45
 ·have j:pfx s=1:=by simp[pfx,z]
  have L:=zqE s
  have D:decide (bt s 0=45)=true:=decide_eq_true z
  have M:1≤s.size:=by omega
  obtain⟨t,H⟩: ∃t,t=s.extract 1 s.size:=⟨_,rfl⟩
  have A: ∀w,Calls Tryz.prog 170 #[.string s,.string {data:=#[45]}] w fun e o=>e= .returned (.tuple #[.string t,.bool true])∧o=w:=by
   intro w
   rw[H]
   exact zqT s w E D M
  have q:t.size=s.size-pfx s:=by rw[H,j,zrb s]
  by_cases h:1≤t.size∧t.size≤9
  ·exact zkd s t true w (by rw[j];rfl) (fun k=>by rw[H,j];exact zra s k) q A h.1 h.2
  ·have n:Hid (¬RdP s):=fun k=>h (by rw[q];exact⟨k.1,k.2.1⟩)
   have I:Hid (∀w,Calls Tryz.prog 170 #[.string s,.string {data:=#[45]}] w fun e o=>e= .returned (.tuple #[.string t,.bool true])∧o=w):=A
   have N:t.size≤9223372036854775807:=by omega
   clear A q H L D j z
   by_cases K:1≤t.size
   ·have J:(9:Int)<t.size:=by omega
    clear h
    go_enter Tryz.func142,Tryz.ntmps142
    go_wp2
    go_step3
    go_wp2_with (go_at_call 170;refine (I.out _).mono ?_;rintro e o ⟨rfl,rfl⟩)
    try rw[Exit.noGoto_ret]
    go_ret2
    exact⟨zdj (by rw[zdJ n.out]) (zdi n.out).symm,rfl⟩
   ·clear h
    go_enter Tryz.func142,Tryz.ntmps142
    go_wp2
    go_step3
    go_wp2_with (go_at_call 170;refine (I.out _).mono ?_;rintro e o ⟨rfl,rfl⟩)
    try rw[Exit.noGoto_ret]
    go_ret2
    exact⟨zdj (by rw[zdJ n.out]) (zdi n.out).symm,rfl⟩
 ·have j:pfx s=0:=by simp[pfx,z]
  have D:decide (bt s 0=45)=false:=decide_eq_false z
  have A:=fun w=>zhn s w E D
  by_cases h:1≤s.size∧s.size≤9
  ·exact zkd s s false w (by rw[j];rfl) (fun k=>by rw[j,Nat.zero_add]) (by rw[j];rfl) A h.1 h.2
  ·have n:Hid (¬RdP s):=fun k=>h (by have a:=k.1;have b:=k.2.1;rw[j] at a b;exact⟨a,b⟩)
   clear A j z
   by_cases K:1≤s.size
   ·have J:(9:Int)<s.size:=by omega
    clear h
    go_enter Tryz.func142,Tryz.ntmps142
    go_wp2
    go_step3
    go_wp2_with (go_at_call 170;refine (zhn _ _ E D).mono ?_;rintro e o ⟨rfl,rfl⟩)
    try rw[Exit.noGoto_ret]
    go_ret2
    exact⟨zdj (by rw[zdJ n.out]) (zdi n.out).symm,rfl⟩
   ·clear h
    go_enter Tryz.func142,Tryz.ntmps142
    go_wp2
    go_step3
    go_wp2_with (go_at_call 170;refine (zhn _ _ E D).mono ?_;rintro e o ⟨rfl,rfl⟩)
    try rw[Exit.noGoto_ret]
    go_ret2
    exact⟨zdj (by rw[zdJ n.out]) (zdi n.out).symm,rfl⟩
end Go.Proofs.YticdggnnpjachaaGreat