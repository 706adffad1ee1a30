/-
  What impl.isDigit,impl.isNameByte and impl.isStrByte answer: the walks.
  Plain facts on which texts are decimal numbers of at most nine digits,and of which. No program is spoken of.
-/
import Derived.Test.YtcidlffeeninbaaGreatProg
import Derived.WalkLawsBesides
import Derived.Test.YtcidlffeeninbaaGreatClAidToTreeMath
namespace Go.Proofs.YtcidlffeeninbaaGreat
set_option maxHeartbeats 1600000
open Go.RowKit Go.PlainAid
theorem zcW {c:Int} (h: ¬(48≤c∧c≤57)):zJ c=false:=decide_eq_false h
theorem zeR {c:Int} {h:Bool}:zK h c=true↔(97≤c∧c≤122)∨(65≤c∧c≤90)∨c=95∨(h=true∧c=36)∨(48≤c∧c≤57):=by rw[zK,Bool.or_eq_true,zdO,zcJ];simp only[or_assoc]
theorem zes {c:Int} {q:Bool} (h: ¬((97≤c∧c≤122)∨(65≤c∧c≤90)∨c=95∨(q=true∧c=36)∨(48≤c∧c≤57))):zK q c=false:=Bool.eq_false_iff.2 fun e=>h (zeR.1 e)
theorem zbL (c:Int) (w:World) (_:0≤c) (_:c≤255):
  Calls Tryz.prog 149 #[.int .u8 c] w fun e z=>e= .returned (.bool (zJ c))∧z=w:=by
 by_cases D:48≤c
 ·by_cases A:c≤57
  ·have h:Hid (zJ c=true):=zcJ.2 ⟨D,A⟩
   have q:decide (48≤c)=true:=decide_eq_true (by omega)
   have E:decide (c≤57)=true:=decide_eq_true (by omega)
   go_enter Tryz.func149,Tryz.ntmps149
   go_wp2
   go_ret
   exact⟨zh h.out.symm,rfl⟩
  ·have h:Hid (zJ c=false):=zcW (by omega)
   have q:decide (48≤c)=true:=decide_eq_true (by omega)
   have E:decide (c≤57)=false:=decide_eq_false (by omega)
   go_enter Tryz.func149,Tryz.ntmps149
   go_wp2
   go_ret
   exact⟨zh h.out.symm,rfl⟩
 ·have h:Hid (zJ c=false):=zcW (by omega)
  have q:decide (48≤c)=false:=decide_eq_false (by omega)
  go_enter Tryz.func149,Tryz.ntmps149
  go_wp2
  go_ret
  exact⟨zh h.out.symm,rfl⟩
theorem zeS (c:Int) (q:Bool) (w:World) (D:0≤c) (A:c≤255):
  Calls Tryz.prog 150 #[.int .u8 c,.bool q] w fun e z=>e= .returned (.bool (zK q c))∧z=w:=by
 have L:(97≤c∧c≤122)∨(65≤c∧c≤90)∨(48≤c∧c≤57)∨c=95∨c=36∨(c<65∧¬(48≤c∧c≤57)∧c≠36)∨(91≤c∧c≤96∧c≠95)∨123≤c:=by omega
 rcases L with r|r|r|r|r|r|r|r
 ·have h:Hid (zK q c=true):=zeR.2 (by omega)
  have E:decide (97≤c)=true:=decide_eq_true (by omega)
  have N:decide (c≤122)=true:=decide_eq_true (by omega)
  clear r
  go_enter Tryz.func150,Tryz.ntmps150
  go_wp2_with (first|(go_at_call 149;refine (zbL _ _ D A).mono ?_;rintro e z ⟨rfl,rfl⟩))
  go_ret
  exact⟨zh h.out.symm,rfl⟩
 ·have h:Hid (zK q c=true):=zeR.2 (by omega)
  have E:decide (97≤c)=false:=decide_eq_false (by omega)
  have H:decide (65≤c)=true:=decide_eq_true (by omega)
  have M:decide (c≤90)=true:=decide_eq_true (by omega)
  clear r
  go_enter Tryz.func150,Tryz.ntmps150
  go_wp2_with (first|(go_at_call 149;refine (zbL _ _ D A).mono ?_;rintro e z ⟨rfl,rfl⟩))
  go_ret
  exact⟨zh h.out.symm,rfl⟩
 ·have h:Hid (zK q c=true):=zeR.2 (by omega)
  have E:decide (97≤c)=false:=decide_eq_false (by omega)
  have H:decide (65≤c)=false:=decide_eq_false (by omega)
  have I:zJ c=true:=zcJ.2 r
  clear r
  go_enter Tryz.func150,Tryz.ntmps150
  go_wp2_with (first|(go_at_call 149;refine (zbL _ _ D A).mono ?_;rintro e z ⟨rfl,rfl⟩))
  go_ret
  exact⟨zh h.out.symm,rfl⟩
 ·have h:Hid (zK q c=true):=zeR.2 (by omega)
  have E:decide (97≤c)=false:=decide_eq_false (by omega)
  have H:decide (65≤c)=true:=decide_eq_true (by omega)
  have M:decide (c≤90)=false:=decide_eq_false (by omega)
  have I:zJ c=false:=zcW (by omega)
  have J:(c==95)=true:=beq_iff_eq.2 (by omega)
  clear r
  go_enter Tryz.func150,Tryz.ntmps150
  go_wp2_with (first|(go_at_call 149;refine (zbL _ _ D A).mono ?_;rintro e z ⟨rfl,rfl⟩))
  go_ret
  exact⟨zh h.out.symm,rfl⟩
 ·cases q
  ·have h:Hid (zK false c=false):=zes (by simp;omega)
   have E:decide (97≤c)=false:=decide_eq_false (by omega)
   have H:decide (65≤c)=false:=decide_eq_false (by omega)
   have I:zJ c=false:=zcW (by omega)
   have J:(c==95)=false:=beq_eq_false_iff_ne.2 (by omega)
   have K:(c==36)=true:=beq_iff_eq.2 (by omega)
   clear r
   go_enter Tryz.func150,Tryz.ntmps150
   go_wp2_with (first|(go_at_call 149;refine (zbL _ _ D A).mono ?_;rintro e z ⟨rfl,rfl⟩))
   go_ret
   exact⟨zh h.out.symm,rfl⟩
  ·have h:Hid (zK true c=true):=zeR.2 (by simp;omega)
   have E:decide (97≤c)=false:=decide_eq_false (by omega)
   have H:decide (65≤c)=false:=decide_eq_false (by omega)
   have I:zJ c=false:=zcW (by omega)
   have J:(c==95)=false:=beq_eq_false_iff_ne.2 (by omega)
   have K:(c==36)=true:=beq_iff_eq.2 (by omega)
   clear r
   go_enter Tryz.func150,Tryz.ntmps150
   go_wp2_with (first|(go_at_call 149;refine (zbL _ _ D A).mono ?_;rintro e z ⟨rfl,rfl⟩))
   go_ret
   exact⟨zh h.out.symm,rfl⟩
 ·cases q
  ·have h:Hid (zK false c=false):=zes (by simp;omega)
   have E:decide (97≤c)=false:=decide_eq_false (by omega)
   have H:decide (65≤c)=false:=decide_eq_false (by omega)
   have I:zJ c=false:=zcW (by omega)
   have J:(c==95)=false:=beq_eq_false_iff_ne.2 (by omega)
   have K:(c==36)=false:=beq_eq_false_iff_ne.2 (by omega)
   clear r
   go_enter Tryz.func150,Tryz.ntmps150
   go_wp2_with (first|(go_at_call 149;refine (zbL _ _ D A).mono ?_;rintro e z ⟨rfl,rfl⟩))
   go_ret
   exact⟨zh h.out.symm,rfl⟩
  ·have h:Hid (zK true c=false):=zes (by simp;omega)
   have E:decide (97≤c)=false:=decide_eq_false (by omega)
   have H:decide (65≤c)=false:=decide_eq_false (by omega)
   have I:zJ c=false:=zcW (by omega)
   have J:(c==95)=false:=beq_eq_false_iff_ne.2 (by omega)
   have K:(c==36)=false:=beq_eq_false_iff_ne.2 (by omega)
   clear r
   go_enter Tryz.func150,Tryz.ntmps150
   go_wp2_with (first|(go_at_call 149;refine (zbL _ _ D A).mono ?_;rintro e z ⟨rfl,rfl⟩))
   go_ret
   exact⟨zh h.out.symm,rfl⟩
 ·cases q
  ·have h:Hid (zK false c=false):=zes (by simp;omega)
   have E:decide (97≤c)=false:=decide_eq_false (by omega)
   have H:decide (65≤c)=true:=decide_eq_true (by omega)
   have M:decide (c≤90)=false:=decide_eq_false (by omega)
   have I:zJ c=false:=zcW (by omega)
   have J:(c==95)=false:=beq_eq_false_iff_ne.2 (by omega)
   have K:(c==36)=false:=beq_eq_false_iff_ne.2 (by omega)
   clear r
   go_enter Tryz.func150,Tryz.ntmps150
   go_wp2_with (first|(go_at_call 149;refine (zbL _ _ D A).mono ?_;rintro e z ⟨rfl,rfl⟩))
   go_ret
   exact⟨zh h.out.symm,rfl⟩
  ·have h:Hid (zK true c=false):=zes (by simp;omega)
   have E:decide (97≤c)=false:=decide_eq_false (by omega)
   have H:decide (65≤c)=true:=decide_eq_true (by omega)
   have M:decide (c≤90)=false:=decide_eq_false (by omega)
   have I:zJ c=false:=zcW (by omega)
   have J:(c==95)=false:=beq_eq_false_iff_ne.2 (by omega)
   have K:(c==36)=false:=beq_eq_false_iff_ne.2 (by omega)
   clear r
   go_enter Tryz.func150,Tryz.ntmps150
   go_wp2_with (first|(go_at_call 149;refine (zbL _ _ D A).mono ?_;rintro e z ⟨rfl,rfl⟩))
   go_ret
   exact⟨zh h.out.symm,rfl⟩
 ·cases q
  ·have h:Hid (zK false c=false):=zes (by simp;omega)
   have E:decide (97≤c)=true:=decide_eq_true (by omega)
   have N:decide (c≤122)=false:=decide_eq_false (by omega)
   have H:decide (65≤c)=true:=decide_eq_true (by omega)
   have M:decide (c≤90)=false:=decide_eq_false (by omega)
   have I:zJ c=false:=zcW (by omega)
   have J:(c==95)=false:=beq_eq_false_iff_ne.2 (by omega)
   have K:(c==36)=false:=beq_eq_false_iff_ne.2 (by omega)
   clear r
   go_enter Tryz.func150,Tryz.ntmps150
   go_wp2_with (first|(go_at_call 149;refine (zbL _ _ D A).mono ?_;rintro e z ⟨rfl,rfl⟩))
   go_ret
   exact⟨zh h.out.symm,rfl⟩
  ·have h:Hid (zK true c=false):=zes (by simp;omega)
   have E:decide (97≤c)=true:=decide_eq_true (by omega)
   have N:decide (c≤122)=false:=decide_eq_false (by omega)
   have H:decide (65≤c)=true:=decide_eq_true (by omega)
   have M:decide (c≤90)=false:=decide_eq_false (by omega)
   have I:zJ c=false:=zcW (by omega)
   have J:(c==95)=false:=beq_eq_false_iff_ne.2 (by omega)
   have K:(c==36)=false:=beq_eq_false_iff_ne.2 (by omega)
   clear r
   go_enter Tryz.func150,Tryz.ntmps150
   go_wp2_with (first|(go_at_call 149;refine (zbL _ _ D A).mono ?_;rintro e z ⟨rfl,rfl⟩))
   go_ret
   exact⟨zh h.out.symm,rfl⟩
def zet (c:Int):Bool:=decide (zb8 c)
theorem zgG (c:Int) (w:World) (N:0≤c) (L:c≤255):
  Calls Tryz.prog 175 #[.int .u8 c] w fun e D=>e= .returned (.bool (zet c))∧D=w:=by
 have z:c<32∨127≤c∨c=34∨c=92∨zb8 c:=by unfold zb8;omega
 rcases z with r|r|r|r|r
 ·have q:Hid (zet c=false):=decide_eq_false (fun h=>by unfold zb8 at h;omega)
  have A:decide (32≤c)=false:=decide_eq_false (by omega)
  clear r
  go_enter Tryz.func175,Tryz.ntmps175
  go_wp2
  go_ret
  exact⟨zh q.out.symm,rfl⟩
 ·have q:Hid (zet c=false):=decide_eq_false (fun h=>by unfold zb8 at h;omega)
  have A:decide (32≤c)=true:=decide_eq_true (by omega)
  have K:decide (c≤126)=false:=decide_eq_false (by omega)
  clear r
  go_enter Tryz.func175,Tryz.ntmps175
  go_wp2
  go_ret
  exact⟨zh q.out.symm,rfl⟩
 ·have q:Hid (zet c=false):=decide_eq_false (fun h=>by unfold zb8 at h;omega)
  subst r
  go_enter Tryz.func175,Tryz.ntmps175
  go_wp2
  go_ret
  exact⟨zh q.out.symm,rfl⟩
 ·have q:Hid (zet c=false):=decide_eq_false (fun h=>by unfold zb8 at h;omega)
  subst r
  go_enter Tryz.func175,Tryz.ntmps175
  go_wp2
  go_ret
  exact⟨zh q.out.symm,rfl⟩
 ·have q:Hid (zet c=true):=decide_eq_true r
  obtain⟨J,E,I,H⟩:=r
  have A:decide (32≤c)=true:=decide_eq_true (by omega)
  have K:decide (c≤126)=true:=decide_eq_true (by omega)
  have M:(c !=34)=true:=bne_iff_ne.2 (by omega)
  have O:(c !=92)=true:=bne_iff_ne.2 (by omega)
  clear J E I H
  go_enter Tryz.func175,Tryz.ntmps175
  go_wp2
  go_ret
  exact⟨zh q.out.symm,rfl⟩
abbrev zeu (c:Int):Prop:=48≤c∧c≤57
def dv (s:ByteArray) (p:Nat):Nat→Int
 |0=>0
 |k+1=>dv s p k*10+(bt s (p+k)-48)
theorem ztB (s:ByteArray) (p k:Nat) (h: ∀j,j<k→zeu (bt s (p+j))):0≤dv s p k∧dv s p k<10^k:=by
 induction k with
 |zero=>simp[dv]
 |succ k q=>
  obtain⟨a,b⟩:=q (fun j w=>h j (by omega))
  have c:=h k (by omega)
  unfold zeu at c
  rw[dv,zdQ]
  omega
theorem ztC (k:Nat) (h:k≤9):(10:Int)^k≤1000000000:=by
 have:=zfh h
 have e:(10:Int)^9=1000000000:=by decide
 omega
def pfx (s:ByteArray):Nat:=if bt s 0=45 then 1 else 0
theorem ztD (s:ByteArray):pfx s≤s.size:=by
 unfold pfx
 split
 ·rename_i h
  rcases Nat.eq_zero_or_pos s.size with e|e
  ·rw[bt_end s (by omega)] at h
   omega
  ·omega
 ·omega
abbrev RdP (s:ByteArray):Prop:=
 1≤s.size-pfx s∧s.size-pfx s≤9∧(∀j,j<s.size-pfx s→zeu (bt s (pfx s+j)))∧(bt s (pfx s)≠48∨(pfx s=0∧s.size=1))
def zeT (s:ByteArray):Bool:=decide (RdP s)
def rdV (s:ByteArray):Int:=if zeT s then (if pfx s=1 then-dv s 1 (s.size-1) else dv s 0 s.size) else 0
theorem zfD {s:ByteArray} (h:RdP s):zeT s=true:=decide_eq_true h
theorem zd4 {s:ByteArray} (h: ¬RdP s):zeT s=false:=decide_eq_false h
theorem zev {s:ByteArray} (h: ¬RdP s):rdV s=0:=by rw[rdV,zd4 h];rfl
def spV (s:ByteArray):Nat→Int
 |0=>0
 |k+1=>if zeu (bt s k) then spV s k*10+(bt s k-48) else spV s k
def spK (s:ByteArray):Nat→Int
 |0=>0
 |k+1=>if zeu (bt s k) then spK s k+1 else spK s k
def spN (s:ByteArray):Int:=if bt s 0=45 then-spV s s.size else spV s s.size
end Go.Proofs.YtcidlffeeninbaaGreat
