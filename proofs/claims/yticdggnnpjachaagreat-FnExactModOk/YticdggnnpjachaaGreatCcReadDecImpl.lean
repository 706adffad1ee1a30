/-
 What impl.ReadDec answers: the walk.
-/
import Derived.Test.YticdggnnpjachaaGreatCcImplLexAToReadDecMath
import Derived.WalkMore
namespace Go.Proofs.YticdggnnpjachaaGreat
set_option maxHeartbeats 1600000
open Go.RowKit Go.PlainAid
theorem ziJ (x:Int) (n:0≤x) (j:x≤255) (c:Nat) (o:c<256):UInt8.ofNat x.toNat=UInt8.ofNat c↔x=c:=by
 constructor
 ·intro h
  have:=congrArg UInt8.toNat h
  simp only[UInt8.toNat_ofNat'] at this
  omega
 ·intro h
  rw[h]
  rfl
theorem znX (s:ByteArray) (h:1≤s.size):((s.extract 0 1).toList==[45])=decide (bt s 0=45):=by
 rw[zgB s 1 h,Lib.toList_data,strOfNums_data]
 simp only[bsl,List.map_cons,List.map_nil]
 rw[Bool.eq_iff_iff,beq_iff_eq,decide_eq_true_eq]
 have:=ziJ (bt s 0) (bt_nonneg s 0) (bt_le s 0) 45 (by decide)
 simp only[List.cons.injEq,and_true]
 exact this
theorem ziK (s:ByteArray) (w:World) (_:s.size≤9223372036854775807):
  Calls Tryz.prog 140 #[.string s,.string {data:=#[45]}] w fun e n=>e= .returned (.bool (decide (bt s 0=45)))∧n=w:=by
 by_cases h:1≤s.size
 ·have j:Hid (((s.extract 0 1).toList==[45])=decide (bt s 0=45)):=znX s h
  go_enter Tryz.func140,Tryz.ntmps140
  go_wp2
  go_ret
  exact⟨zl j.out,rfl⟩
 ·have j:Hid (decide (bt s 0=45)=false):=by show decide (bt s 0=45)=false;rw[bt_end s (by omega)];rfl
  go_enter Tryz.func140,Tryz.ntmps140
  go_wp2
  go_ret
  exact⟨zl j.out.symm,rfl⟩
theorem znY (s:ByteArray) (w:World) (n:s.size≤9223372036854775807) (h:decide (bt s 0=45)=false):
  Calls Tryz.prog 193 #[.string s,.string {data:=#[45]}] w fun e j=>e= .returned (.tuple #[.string s,.bool false])∧j=w:=by
 go_enter Tryz.func193,Tryz.ntmps193
 go_wp2_with fail
 refine (ziK _ _ n).mono ?_
 rintro e j ⟨rfl,rfl⟩
 go_wp2
 go_ret2
 exact⟨rfl,rfl⟩
theorem znZ (s:ByteArray) (w:World) (n:s.size≤9223372036854775807) (h:decide (bt s 0=45)=true) (o:1≤s.size):
  Calls Tryz.prog 193 #[.string s,.string {data:=#[45]}] w fun e j=>e= .returned (.tuple #[.string (s.extract 1 s.size),.bool true])∧j=w:=by
 go_enter Tryz.func193,Tryz.ntmps193
 go_wp2_with fail
 refine (ziK _ _ n).mono ?_
 rintro e j ⟨rfl,rfl⟩
 go_wp2
 go_ret2
 exact⟨rfl,rfl⟩
theorem zgp (s:ByteArray) (w:World) (n:s.size≤9223372036854775807) (h:decide (bt s 0=45)=false):
  Calls Tryz.prog 170 #[.string s,.string {data:=#[45]}] w fun e j=>e= .returned (.tuple #[.string s,.bool false])∧j=w:=by
 go_enter Tryz.func170,Tryz.ntmps170
 go_wp2_with fail
 refine (znY _ _ n h).mono ?_
 rintro e j ⟨rfl,rfl⟩
 go_wp2
 go_ret2
 exact⟨rfl,rfl⟩
theorem zoa (s:ByteArray) (w:World) (o:s.size≤9223372036854775807) (h:decide (bt s 0=45)=true) (n:1≤s.size):
  Calls Tryz.prog 170 #[.string s,.string {data:=#[45]}] w fun e j=>e= .returned (.tuple #[.string (s.extract 1 s.size),.bool true])∧j=w:=by
 go_enter Tryz.func170,Tryz.ntmps170
 go_wp2_with fail
 refine (znZ _ _ o h n).mono ?_
 rintro e j ⟨rfl,rfl⟩
 go_wp2
 go_ret2
 exact⟨rfl,rfl⟩
theorem ziL (s:ByteArray) (h:bt s (pfx s)=48):(s.toList==[48])=true↔(pfx s=0∧s.size=1):=by
 have e:s.toList=(bsl s 0 s.size).map (fun n=>UInt8.ofNat n.toNat):=by
  rw[Lib.toList_data,←strOfNums_data,←zj6 s]
 rw[e,beq_iff_eq]
 constructor
 ·intro k
  have o:=congrArg List.length k
  rw[List.length_map,zj2] at o
  have j:s.size=1:=by simpa using o
  rw[j] at k
  simp only[bsl,List.map_cons,List.map_nil,List.cons.injEq,and_true] at k
  have:=(ziJ (bt s 0) (bt_nonneg s 0) (bt_le s 0) 48 (by decide)).1 k
  refine⟨?_,j⟩
  unfold pfx
  rw[if_neg (by omega)]
 ·rintro⟨q,w⟩
  rw[q] at h
  rw[w]
  simp[bsl,h]
def zcC (s:ByteArray) (k:Nat):Prop:=(∀j,j<k→zdu (bt s (pfx s+j)))∧(1≤k→bt s (pfx s)≠48∨(pfx s=0∧s.size=1))
theorem zob (s:ByteArray):zcC s 0:=⟨fun _ h=>by omega,fun h=>by omega⟩
theorem zoc {s:ByteArray} {k:Nat} (h:zcC s k) (n:k=s.size-pfx s) (j:1≤k) (o:k≤9):RdP s:=by
 subst n
 exact⟨j,o,h.1,h.2 j⟩
theorem zgq {s:ByteArray} {k:Nat} (h:zcC s k) (n:48≤bt s (pfx s+k)∧bt s (pfx s+k)≤57) (o:k=0→bt s (pfx s)≠48∨(pfx s=0∧s.size=1)):zcC s (k+1):=by
 refine⟨fun j q=>?_,fun _=>?_⟩
 ·by_cases e:j=k
  ·rw[e];exact n
  ·exact h.1 j (by omega)
 ·by_cases e:k=0
  ·exact o e
  ·exact h.2 (by omega)
theorem zod {s:ByteArray} {k:Nat} (n:k<s.size-pfx s) (j: ¬(48≤bt s (pfx s+k)∧bt s (pfx s+k)≤57)): ¬RdP s:=fun h=>j (h.2.2.1 k n)
theorem zoe {s:ByteArray} (j:bt s (pfx s)=48) (h: ¬(pfx s=0∧s.size=1)): ¬RdP s:=fun k=>by
 rcases k.2.2.2 with e|e
 ·exact e j
 ·exact h e
theorem zof {s:ByteArray} {k:Nat} (h:zcC s k) (j:k≤9):0≤dv s (pfx s) k∧dv s (pfx s) k≤1000000000:=by
 have a:=znJ s (pfx s) k h.1
 have b:=znK k j
 omega
theorem zog {s:ByteArray} (h:RdP s):rdV s=if pfx s=1 then-dv s (pfx s) (s.size-pfx s) else dv s (pfx s) (s.size-pfx s):=by
 rw[rdV,if_pos (ze2 h)]
 by_cases e:bt s 0=45
 ·have j:pfx s=1:=by simp[pfx,e]
  rw[j,if_pos rfl,if_pos rfl]
 ·have j:pfx s=0:=by simp[pfx,e]
  rw[j]
  rfl
theorem ziM (s t:ByteArray) (b:Bool) (w:World) (N:b=decide (pfx s=1)) (K: ∀k,bt t k=bt s (pfx s+k)) (L:t.size=s.size-pfx s)
  (hc: ∀w,Calls Tryz.prog 170 #[.string s,.string {data:=#[45]}] w fun e I=>e= .returned (.tuple #[.string t,.bool b])∧I=w) (h1:1≤t.size) (h9:t.size≤9):
  Calls Tryz.prog 142 #[.string s] w fun e I=>e= .returned (.tuple #[.int .i64 (rdV s),.bool (zdV s)])∧I=w:=by
 have HC:Hid (∀w,Calls Tryz.prog 170 #[.string s,.string {data:=#[45]}] w fun e I=>e= .returned (.tuple #[.string t,.bool b])∧I=w):=hc
 have H:Hid (∀k,bt t k=bt s (pfx s+k)):=K
 have E:Hid (t.size=s.size-pfx s):=L
 have aa:Hid (b=decide (pfx s=1)):=N
 clear hc K L N
 have t1:(1:Int)≤t.size:=by omega
 have t9:(t.size:Int)≤9:=by omega
 cases b
 all_goals
  go_enter Tryz.func142,Tryz.ntmps142
  go_wp2
  go_step3
  go_wp2_with (go_at_call 170;refine (HC.out _).mono ?_;rintro e I ⟨rfl,rfl⟩)
  go_step3
  go_wp2
  go_loop [6,7,25] (fun n o i=>∃k:Nat,k≤t.size∧i= .int .i64 k∧n= .int .i64 (dv s (pfx s) k)∧o= .bool true∧zcC s k) (fun _ _ i=>(t.size-intOf i).toNat)
  case atStart=>exact⟨0,by omega,rfl,rfl,rfl,zob s⟩
  case round=>
   obtain⟨k,hk,rfl,rfl,rfl,D⟩:=hrel
   have Y:Hid (zcC s k):=D
   have hv:=zof D (by omega)
   clear D
   by_cases ab:k<t.size
   ·have ae:=bt_nonneg t k
    have ag:=bt_le t k
    have hb:=get_bt t
    by_cases U:48≤bt t k∧bt t k≤57
    ·obtain⟨A,q⟩:=U
     have Z:Hid (dv s (pfx s) (k+1)=10*dv s (pfx s) k+(bt t k-48)):=by
      show dv s (pfx s) (k+1)=_
      rw[dv,H.out k];omega
     by_cases M:(bt t k-48==0)=true
     ·by_cases z:((k:Int)==0)=true
      ·have V:k=0:=by simpa using z
       have O:bt s (pfx s)=48:=by
        have J:=H.out k
        rw[V] at J
        rw[V] at M
        have e2:bt t 0-48=0:=by simpa using M
        rw[Nat.add_zero] at J
        omega
       by_cases X:(s.toList==[48])=true
       ·have j:Hid (zcC s (k+1)):=zgq Y.out (by rw[←H.out k];exact⟨A,q⟩) (fun _=>.inr ((ziL s O).1 X))
        clear V O
        go_wp2
        go_round
        case rel=>exact⟨k+1,by omega,by go_num,by rw[Z.out],rfl,j.out⟩
        case measure=>simp[intOf];omega
       ·have j:Hid (¬RdP s):=zoe O (fun h=>X ((ziL s O).2 h))
        have ah:(s.toList==[48])=false:=by simpa using X
        clear V O X
        go_wp2
        go_ret2
        exact⟨zcR (by rw[zdv j.out]) (zcP j.out).symm,rfl⟩
      ·have j:Hid (zcC s (k+1)):=zgq Y.out (by rw[←H.out k];exact⟨A,q⟩) (fun e=>absurd (show ((k:Int)==0)=true by rw[e];rfl) z)
       have ad:((k:Int)==0)=false:=by simpa using z
       clear z
       go_wp2
       go_round
       case rel=>exact⟨k+1,by omega,by go_num,by rw[Z.out],rfl,j.out⟩
       case measure=>simp[intOf];omega
     ·have j:Hid (zcC s (k+1)):=zgq Y.out (by rw[←H.out k];exact⟨A,q⟩) (fun e=>by
       left
       intro ac
       apply M
       have J:=H.out k
       rw[e,Nat.add_zero] at J
       rw[e,J,ac]
       rfl)
      have af:(bt t k-48==0)=false:=by simpa using M
      clear M
      go_wp2
      go_round
      case rel=>exact⟨k+1,by omega,by go_num,by rw[Z.out],rfl,j.out⟩
      case measure=>simp[intOf];omega
    ·have j:Hid (¬RdP s):=zod (k:=k) (by rw[←E.out];exact ab) (by rw[←H.out k];exact U)
     by_cases A:48≤bt t k
     ·have q:57<bt t k:=by omega
      clear U
      go_wp2
      go_ret2
      exact⟨zcR (by rw[zdv j.out]) (zcP j.out).symm,rfl⟩
     ·clear U
      go_wp2
      go_ret2
      exact⟨zcR (by rw[zdv j.out]) (zcP j.out).symm,rfl⟩
   ·have HY:Hid (RdP s):=zoc Y.out (by rw[←E.out];omega) (by omega) (by omega)
    have HK:Hid (k=s.size-pfx s):=by show k=s.size-pfx s;rw[←E.out];omega
    go_wp2
    go_ret2
    refine⟨zcR ?_ (ze2 HY.out).symm,rfl⟩
    rw[zog HY.out,HK.out]
    have:=aa.out
    simp at this
    simp[this]
theorem zoh (s:ByteArray) (k:Nat):bt (s.extract 1 s.size) k=bt s (1+k):=by
 rw[zcS,zcS,Lib.extract_data,List.take_of_length_le (by rw[List.length_drop,Array.length_toList];exact Nat.le_refl _),List.map_drop]
 simp only[List.getD,List.getElem?_drop]
theorem zoi (s:ByteArray):(s.extract 1 s.size).size=s.size-1:=by simp
theorem zoj (s:ByteArray) (w:World) (E:s.size≤9223372036854775807):
  Calls Tryz.prog 142 #[.string s] w fun e o=>e= .returned (.tuple #[.int .i64 (rdV s),.bool (zdV s)])∧o=w:=by
 by_cases A:bt s 0=45
 ·have j:pfx s=1:=by simp[pfx,A]
  have N:=znL s
  have z:decide (bt s 0=45)=true:=decide_eq_true A
  have J:1≤s.size:=by omega
  obtain⟨t,H⟩: ∃t,t=s.extract 1 s.size:=⟨_,rfl⟩
  have D: ∀w,Calls Tryz.prog 170 #[.string s,.string {data:=#[45]}] w fun e o=>e= .returned (.tuple #[.string t,.bool true])∧o=w:=by
   intro w
   rw[H]
   exact zoa s w E z J
  have q:t.size=s.size-pfx s:=by rw[H,j,zoi s]
  by_cases h:1≤t.size∧t.size≤9
  ·exact ziM s t true w (by rw[j];rfl) (fun k=>by rw[H,j];exact zoh s k) q D h.1 h.2
  ·have n:Hid (¬RdP s):=fun k=>h (by rw[q];exact⟨k.1,k.2.1⟩)
   have I:Hid (∀w,Calls Tryz.prog 170 #[.string s,.string {data:=#[45]}] w fun e o=>e= .returned (.tuple #[.string t,.bool true])∧o=w):=D
   have L:t.size≤9223372036854775807:=by omega
   clear D q H N z j A
   by_cases M:1≤t.size
   ·have K:(9:Int)<t.size:=by omega
    clear h
    go_enter Tryz.func142,Tryz.ntmps142
    go_wp2
    go_step3
    go_wp2_with (go_at_call 170;refine (I.out _).mono ?_;rintro e o ⟨rfl,rfl⟩)
    try rw[Exit.noGoto_ret]
    go_ret2
    exact⟨zcR (by rw[zdv n.out]) (zcP n.out).symm,rfl⟩
   ·clear h
    go_enter Tryz.func142,Tryz.ntmps142
    go_wp2
    go_step3
    go_wp2_with (go_at_call 170;refine (I.out _).mono ?_;rintro e o ⟨rfl,rfl⟩)
    try rw[Exit.noGoto_ret]
    go_ret2
    exact⟨zcR (by rw[zdv n.out]) (zcP n.out).symm,rfl⟩
 ·have j:pfx s=0:=by simp[pfx,A]
  have z:decide (bt s 0=45)=false:=decide_eq_false A
  have D:=fun w=>zgp s w E z
  by_cases h:1≤s.size∧s.size≤9
  ·exact ziM s s false w (by rw[j];rfl) (fun k=>by rw[j,Nat.zero_add]) (by rw[j];rfl) D h.1 h.2
  ·have n:Hid (¬RdP s):=fun k=>h (by have a:=k.1;have b:=k.2.1;rw[j] at a b;exact⟨a,b⟩)
   clear D j A
   by_cases M:1≤s.size
   ·have K:(9:Int)<s.size:=by omega
    clear h
    go_enter Tryz.func142,Tryz.ntmps142
    go_wp2
    go_step3
    go_wp2_with (go_at_call 170;refine (zgp _ _ E z).mono ?_;rintro e o ⟨rfl,rfl⟩)
    try rw[Exit.noGoto_ret]
    go_ret2
    exact⟨zcR (by rw[zdv n.out]) (zcP n.out).symm,rfl⟩
   ·clear h
    go_enter Tryz.func142,Tryz.ntmps142
    go_wp2
    go_step3
    go_wp2_with (go_at_call 170;refine (zgp _ _ E z).mono ?_;rintro e o ⟨rfl,rfl⟩)
    try rw[Exit.noGoto_ret]
    go_ret2
    exact⟨zcR (by rw[zdv n.out]) (zcP n.out).symm,rfl⟩
end Go.Proofs.YticdggnnpjachaaGreat