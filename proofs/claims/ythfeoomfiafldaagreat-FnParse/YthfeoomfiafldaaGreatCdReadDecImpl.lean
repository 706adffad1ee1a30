/-
 What impl.ReadDec answers: the walk.
-/
import Derived.Test.YthfeoomfiafldaaGreatCdImplLexAToReadDecMath
import Derived.WalkMore
namespace Go.Proofs.YthfeoomfiafldaaGreat
set_option maxHeartbeats 1600000
open Go.RowKit Go.PlainAid
theorem zmp (x:Int) (j:0≤x) (z:x≤255) (c:Nat) (o:c<256):UInt8.ofNat x.toNat=UInt8.ofNat c↔x=c:=by
 constructor
 ·intro h
  have:=congrArg UInt8.toNat h
  simp only[UInt8.toNat_ofNat'] at this
  omega
 ·intro h
  rw[h]
  rfl
theorem ztP (s:ByteArray) (h:1≤s.size):((s.extract 0 1).toList==[45])=decide (bt s 0=45):=by
 rw[zjq s 1 h,Lib.toList_data,strOfNums_data]
 simp only[bsl,List.map_cons,List.map_nil]
 rw[Bool.eq_iff_iff,beq_iff_eq,decide_eq_true_eq]
 have:=zmp (bt s 0) (bt_nonneg s 0) (bt_le s 0) 45 (by decide)
 simp only[List.cons.injEq,and_true]
 exact this
theorem zmq (s:ByteArray) (w:World) (_:s.size≤9223372036854775807):
  Calls Tryz.prog 81 #[.string s,.string {data:=#[45]}] w fun e o=>e= .returned (.bool (decide (bt s 0=45)))∧o=w:=by
 by_cases h:1≤s.size
 ·have j:Hid (((s.extract 0 1).toList==[45])=decide (bt s 0=45)):=ztP s h
  go_enter Tryz.func81,Tryz.ntmps81
  go_wp2
  go_ret
  exact⟨zq j.out,rfl⟩
 ·have j:Hid (decide (bt s 0=45)=false):=by show decide (bt s 0=45)=false;rw[bt_end s (by omega)];rfl
  go_enter Tryz.func81,Tryz.ntmps81
  go_wp2
  go_ret
  exact⟨zq j.out.symm,rfl⟩
theorem ztQ (s:ByteArray) (w:World) (o:s.size≤9223372036854775807) (h:decide (bt s 0=45)=false):
  Calls Tryz.prog 134 #[.string s,.string {data:=#[45]}] w fun e j=>e= .returned (.tuple #[.string s,.bool false])∧j=w:=by
 go_enter Tryz.func134,Tryz.ntmps134
 go_wp2_with fail
 refine (zmq _ _ o).mono ?_
 rintro e j ⟨rfl,rfl⟩
 go_wp2
 go_ret2
 exact⟨rfl,rfl⟩
theorem ztR (s:ByteArray) (w:World) (o:s.size≤9223372036854775807) (h:decide (bt s 0=45)=true) (z:1≤s.size):
  Calls Tryz.prog 134 #[.string s,.string {data:=#[45]}] w fun e j=>e= .returned (.tuple #[.string (s.extract 1 s.size),.bool true])∧j=w:=by
 go_enter Tryz.func134,Tryz.ntmps134
 go_wp2_with fail
 refine (zmq _ _ o).mono ?_
 rintro e j ⟨rfl,rfl⟩
 go_wp2
 go_ret2
 exact⟨rfl,rfl⟩
theorem ziY (s:ByteArray) (w:World) (o:s.size≤9223372036854775807) (h:decide (bt s 0=45)=false):
  Calls Tryz.prog 111 #[.string s,.string {data:=#[45]}] w fun e j=>e= .returned (.tuple #[.string s,.bool false])∧j=w:=by
 go_enter Tryz.func111,Tryz.ntmps111
 go_wp2_with fail
 refine (ztQ _ _ o h).mono ?_
 rintro e j ⟨rfl,rfl⟩
 go_wp2
 go_ret2
 exact⟨rfl,rfl⟩
theorem ztS (s:ByteArray) (w:World) (o:s.size≤9223372036854775807) (h:decide (bt s 0=45)=true) (z:1≤s.size):
  Calls Tryz.prog 111 #[.string s,.string {data:=#[45]}] w fun e j=>e= .returned (.tuple #[.string (s.extract 1 s.size),.bool true])∧j=w:=by
 go_enter Tryz.func111,Tryz.ntmps111
 go_wp2_with fail
 refine (ztR _ _ o h z).mono ?_
 rintro e j ⟨rfl,rfl⟩
 go_wp2
 go_ret2
 exact⟨rfl,rfl⟩
theorem zmr (s:ByteArray) (h:bt s (pfx s)=48):(s.toList==[48])=true↔(pfx s=0∧s.size=1):=by
 have e:s.toList=(bsl s 0 s.size).map (fun n=>UInt8.ofNat n.toNat):=by
  rw[Lib.toList_data,←strOfNums_data,←zmV s]
 rw[e,beq_iff_eq]
 constructor
 ·intro k
  have j:=congrArg List.length k
  rw[List.length_map,zmS] at j
  have o:s.size=1:=by simpa using j
  rw[o] at k
  simp only[bsl,List.map_cons,List.map_nil,List.cons.injEq,and_true] at k
  have:=(zmp (bt s 0) (bt_nonneg s 0) (bt_le s 0) 48 (by decide)).1 k
  refine⟨?_,o⟩
  unfold pfx
  rw[if_neg (by omega)]
 ·rintro⟨D,z⟩
  rw[D] at h
  rw[z]
  simp[bsl,h]
def zdn (s:ByteArray) (k:Nat):Prop:=(∀j,j<k→zeA (bt s (pfx s+j)))∧(1≤k→bt s (pfx s)≠48∨(pfx s=0∧s.size=1))
theorem ztT (s:ByteArray):zdn s 0:=⟨fun _ h=>by omega,fun h=>by omega⟩
theorem ztU {s:ByteArray} {k:Nat} (h:zdn s k) (o:k=s.size-pfx s) (j:1≤k) (z:k≤9):RdP s:=by
 subst o
 exact⟨j,z,h.1,h.2 j⟩
theorem ziZ {s:ByteArray} {k:Nat} (h:zdn s k) (hd:48≤bt s (pfx s+k)∧bt s (pfx s+k)≤57) (o:k=0→bt s (pfx s)≠48∨(pfx s=0∧s.size=1)):zdn s (k+1):=by
 refine⟨fun j z=>?_,fun _=>?_⟩
 ·by_cases e:j=k
  ·rw[e];exact hd
  ·exact h.1 j (by omega)
 ·by_cases e:k=0
  ·exact o e
  ·exact h.2 (by omega)
theorem ztV {s:ByteArray} {k:Nat} (j:k<s.size-pfx s) (hd: ¬(48≤bt s (pfx s+k)∧bt s (pfx s+k)≤57)): ¬RdP s:=fun h=>hd (h.2.2.1 k j)
theorem ztW {s:ByteArray} (j:bt s (pfx s)=48) (h: ¬(pfx s=0∧s.size=1)): ¬RdP s:=fun k=>by
 rcases k.2.2.2 with e|e
 ·exact e j
 ·exact h e
theorem ztX {s:ByteArray} {k:Nat} (h:zdn s k) (j:k≤9):0≤dv s (pfx s) k∧dv s (pfx s) k≤1000000000:=by
 have a:=ztB s (pfx s) k h.1
 have b:=ztC k j
 omega
theorem ztY {s:ByteArray} (h:RdP s):rdV s=if pfx s=1 then-dv s (pfx s) (s.size-pfx s) else dv s (pfx s) (s.size-pfx s):=by
 rw[rdV,if_pos (zge h)]
 by_cases e:bt s 0=45
 ·have j:pfx s=1:=by simp[pfx,e]
  rw[j,if_pos rfl,if_pos rfl]
 ·have j:pfx s=0:=by simp[pfx,e]
  rw[j]
  rfl
theorem zms (s t:ByteArray) (b:Bool) (w:World) (L:b=decide (pfx s=1)) (M: ∀k,bt t k=bt s (pfx s+k)) (O:t.size=s.size-pfx s)
  (hc: ∀w,Calls Tryz.prog 111 #[.string s,.string {data:=#[45]}] w fun e K=>e= .returned (.tuple #[.string t,.bool b])∧K=w) (h1:1≤t.size) (h9:t.size≤9):
  Calls Tryz.prog 83 #[.string s] w fun e K=>e= .returned (.tuple #[.int .i64 (rdV s),.bool (zft s)])∧K=w:=by
 have HC:Hid (∀w,Calls Tryz.prog 111 #[.string s,.string {data:=#[45]}] w fun e K=>e= .returned (.tuple #[.string t,.bool b])∧K=w):=hc
 have I:Hid (∀k,bt t k=bt s (pfx s+k)):=M
 have J:Hid (t.size=s.size-pfx s):=O
 have aa:Hid (b=decide (pfx s=1)):=L
 clear hc M O L
 have t1:(1:Int)≤t.size:=by omega
 have t9:(t.size:Int)≤9:=by omega
 cases b
 all_goals
  go_enter Tryz.func83,Tryz.ntmps83
  go_wp2
  go_step3
  go_wp2_with (go_at_call 111;refine (HC.out _).mono ?_;rintro e K ⟨rfl,rfl⟩)
  go_step3
  go_wp2
  go_loop [6,7,25] (fun n o i=>∃k:Nat,k≤t.size∧i= .int .i64 k∧n= .int .i64 (dv s (pfx s) k)∧o= .bool true∧zdn s k) (fun _ _ i=>(t.size-intOf i).toNat)
  case atStart=>exact⟨0,by omega,rfl,rfl,rfl,ztT s⟩
  case round=>
   obtain⟨k,hk,rfl,rfl,rfl,H⟩:=hrel
   have X:Hid (zdn s k):=H
   have hv:=ztX H (by omega)
   clear H
   by_cases Z:k<t.size
   ·have ad:=bt_nonneg t k
    have ag:=bt_le t k
    have hb:=get_bt t
    by_cases hd:48≤bt t k∧bt t k≤57
    ·obtain⟨E,D⟩:=hd
     have HD:Hid (dv s (pfx s) (k+1)=10*dv s (pfx s) k+(bt t k-48)):=by
      show dv s (pfx s) (k+1)=_
      rw[dv,I.out k];omega
     by_cases U:(bt t k-48==0)=true
     ·by_cases z:((k:Int)==0)=true
      ·have V:k=0:=by simpa using z
       have N:bt s (pfx s)=48:=by
        have Q:=I.out k
        rw[V] at Q
        rw[V] at U
        have e2:bt t 0-48=0:=by simpa using U
        rw[Nat.add_zero] at Q
        omega
       by_cases Y:(s.toList==[48])=true
       ·have j:Hid (zdn s (k+1)):=ziZ X.out (by rw[←I.out k];exact⟨E,D⟩) (fun _=>.inr ((zmr s N).1 Y))
        clear V N
        go_wp2
        go_round
        case rel=>exact⟨k+1,by omega,by go_num,by rw[HD.out],rfl,j.out⟩
        case measure=>simp[intOf];omega
       ·have j:Hid (¬RdP s):=ztW N (fun h=>Y ((zmr s N).2 h))
        have ae:(s.toList==[48])=false:=by simpa using Y
        clear V N Y
        go_wp2
        go_ret2
        exact⟨zdG (by rw[zeB j.out]) (zdE j.out).symm,rfl⟩
      ·have j:Hid (zdn s (k+1)):=ziZ X.out (by rw[←I.out k];exact⟨E,D⟩) (fun e=>absurd (show ((k:Int)==0)=true by rw[e];rfl) z)
       have ac:((k:Int)==0)=false:=by simpa using z
       clear z
       go_wp2
       go_round
       case rel=>exact⟨k+1,by omega,by go_num,by rw[HD.out],rfl,j.out⟩
       case measure=>simp[intOf];omega
     ·have j:Hid (zdn s (k+1)):=ziZ X.out (by rw[←I.out k];exact⟨E,D⟩) (fun e=>by
       left
       intro ab
       apply U
       have Q:=I.out k
       rw[e,Nat.add_zero] at Q
       rw[e,Q,ab]
       rfl)
      have af:(bt t k-48==0)=false:=by simpa using U
      clear U
      go_wp2
      go_round
      case rel=>exact⟨k+1,by omega,by go_num,by rw[HD.out],rfl,j.out⟩
      case measure=>simp[intOf];omega
    ·have j:Hid (¬RdP s):=ztV (k:=k) (by rw[←J.out];exact Z) (by rw[←I.out k];exact hd)
     by_cases E:48≤bt t k
     ·have D:57<bt t k:=by omega
      clear hd
      go_wp2
      go_ret2
      exact⟨zdG (by rw[zeB j.out]) (zdE j.out).symm,rfl⟩
     ·clear hd
      go_wp2
      go_ret2
      exact⟨zdG (by rw[zeB j.out]) (zdE j.out).symm,rfl⟩
   ·have HY:Hid (RdP s):=ztU X.out (by rw[←J.out];omega) (by omega) (by omega)
    have HK:Hid (k=s.size-pfx s):=by show k=s.size-pfx s;rw[←J.out];omega
    go_wp2
    go_ret2
    refine⟨zdG ?_ (zge HY.out).symm,rfl⟩
    rw[ztY HY.out,HK.out]
    have:=aa.out
    simp at this
    simp[this]
theorem ztZ (s:ByteArray) (k:Nat):bt (s.extract 1 s.size) k=bt s (1+k):=by
 rw[zdr,zdr,Lib.extract_data,List.take_of_length_le (by rw[List.length_drop,Array.length_toList];exact Nat.le_refl _),List.map_drop]
 simp only[List.getD,List.getElem?_drop]
theorem zua (s:ByteArray):(s.extract 1 s.size).size=s.size-1:=by simp
theorem zub (s:ByteArray) (w:World) (J:s.size≤9223372036854775807):
  Calls Tryz.prog 83 #[.string s] w fun e o=>e= .returned (.tuple #[.int .i64 (rdV s),.bool (zft s)])∧o=w:=by
 by_cases E:bt s 0=45
 ·have j:pfx s=1:=by simp[pfx,E]
  have M:=ztD s
  have hd:decide (bt s 0=45)=true:=decide_eq_true E
  have Q:1≤s.size:=by omega
  obtain⟨t,I⟩: ∃t,t=s.extract 1 s.size:=⟨_,rfl⟩
  have H: ∀w,Calls Tryz.prog 111 #[.string s,.string {data:=#[45]}] w fun e o=>e= .returned (.tuple #[.string t,.bool true])∧o=w:=by
   intro w
   rw[I]
   exact ztS s w J hd Q
  have D:t.size=s.size-pfx s:=by rw[I,j,zua s]
  by_cases h:1≤t.size∧t.size≤9
  ·exact zms s t true w (by rw[j];rfl) (fun k=>by rw[I,j];exact ztZ s k) D H h.1 h.2
  ·have z:Hid (¬RdP s):=fun k=>h (by rw[D];exact⟨k.1,k.2.1⟩)
   have K:Hid (∀w,Calls Tryz.prog 111 #[.string s,.string {data:=#[45]}] w fun e o=>e= .returned (.tuple #[.string t,.bool true])∧o=w):=H
   have L:t.size≤9223372036854775807:=by omega
   clear H D I M hd j E
   by_cases O:1≤t.size
   ·have N:(9:Int)<t.size:=by omega
    clear h
    go_enter Tryz.func83,Tryz.ntmps83
    go_wp2
    go_step3
    go_wp2_with (go_at_call 111;refine (K.out _).mono ?_;rintro e o ⟨rfl,rfl⟩)
    try rw[Exit.noGoto_ret]
    go_ret2
    exact⟨zdG (by rw[zeB z.out]) (zdE z.out).symm,rfl⟩
   ·clear h
    go_enter Tryz.func83,Tryz.ntmps83
    go_wp2
    go_step3
    go_wp2_with (go_at_call 111;refine (K.out _).mono ?_;rintro e o ⟨rfl,rfl⟩)
    try rw[Exit.noGoto_ret]
    go_ret2
    exact⟨zdG (by rw[zeB z.out]) (zdE z.out).symm,rfl⟩
 ·have j:pfx s=0:=by simp[pfx,E]
  have hd:decide (bt s 0=45)=false:=decide_eq_false E
  have H:=fun w=>ziY s w J hd
  by_cases h:1≤s.size∧s.size≤9
  ·exact zms s s false w (by rw[j];rfl) (fun k=>by rw[j,Nat.zero_add]) (by rw[j];rfl) H h.1 h.2
  ·have z:Hid (¬RdP s):=fun k=>h (by have a:=k.1;have b:=k.2.1;rw[j] at a b;exact⟨a,b⟩)
   clear H j E
   by_cases O:1≤s.size
   ·have N:(9:Int)<s.size:=by omega
    clear h
    go_enter Tryz.func83,Tryz.ntmps83
    go_wp2
    go_step3
    go_wp2_with (go_at_call 111;refine (ziY _ _ J hd).mono ?_;rintro e o ⟨rfl,rfl⟩)
    try rw[Exit.noGoto_ret]
    go_ret2
    exact⟨zdG (by rw[zeB z.out]) (zdE z.out).symm,rfl⟩
   ·clear h
    go_enter Tryz.func83,Tryz.ntmps83
    go_wp2
    go_step3
    go_wp2_with (go_at_call 111;refine (ziY _ _ J hd).mono ?_;rintro e o ⟨rfl,rfl⟩)
    try rw[Exit.noGoto_ret]
    go_ret2
    exact⟨zdG (by rw[zeB z.out]) (zdE z.out).symm,rfl⟩
end Go.Proofs.YthfeoomfiafldaaGreat