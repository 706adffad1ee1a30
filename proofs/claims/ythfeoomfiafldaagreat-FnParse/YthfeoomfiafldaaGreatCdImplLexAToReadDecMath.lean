/-
  What impl.isDigit,impl.isNameByte and impl.isStrByte answer: the walks.
  Plain facts on which texts are decimal numbers of at most nine digits,and of which. No program is spoken of.
-/
import Derived.Test.YthfeoomfiafldaaGreatCdDrawBaseToDrawText
namespace Go.Proofs.YthfeoomfiafldaaGreat
set_option maxHeartbeats 1600000
open Go.RowKit Go.PlainAid
theorem zcP {c:Int} (h: ¬(48≤c∧c≤57)):zG c=false:=decide_eq_false h
theorem zfr {c:Int} {scr:Bool}:zB scr c=true↔(97≤c∧c≤122)∨(65≤c∧c≤90)∨c=95∨(scr=true∧c=36)∨(48≤c∧c≤57):=by rw[zB,Bool.or_eq_true,zdI,zbV];simp only[or_assoc]
theorem ze8 {c:Int} {scr:Bool} (h: ¬((97≤c∧c≤122)∨(65≤c∧c≤90)∨c=95∨(scr=true∧c=36)∨(48≤c∧c≤57))):zB scr c=false:=Bool.eq_false_iff.2 fun e=>h (zfr.1 e)
theorem zbU (c:Int) (w:World) (_:0≤c) (_:c≤255):
  Calls Tryz.prog 38 #[.int .u8 c] w fun e D=>e= .returned (.bool (zG c))∧D=w:=by
 by_cases E:48≤c
 ·by_cases H:c≤57
  ·have j:Hid (zG c=true):=zbV.2 ⟨E,H⟩
   have o:decide (48≤c)=true:=decide_eq_true (by omega)
   have z:decide (c≤57)=true:=decide_eq_true (by omega)
   go_enter Tryz.func38,Tryz.ntmps38
   go_wp2
   go_ret
   exact⟨zq j.out.symm,rfl⟩
  ·have j:Hid (zG c=false):=zcP (by omega)
   have o:decide (48≤c)=true:=decide_eq_true (by omega)
   have z:decide (c≤57)=false:=decide_eq_false (by omega)
   go_enter Tryz.func38,Tryz.ntmps38
   go_wp2
   go_ret
   exact⟨zq j.out.symm,rfl⟩
 ·have j:Hid (zG c=false):=zcP (by omega)
  have o:decide (48≤c)=false:=decide_eq_false (by omega)
  go_enter Tryz.func38,Tryz.ntmps38
  go_wp2
  go_ret
  exact⟨zq j.out.symm,rfl⟩
theorem zfs (c:Int) (scr:Bool) (w:World) (D:0≤c) (z:c≤255):
  Calls Tryz.prog 39 #[.int .u8 c,.bool scr] w fun e o=>e= .returned (.bool (zB scr c))∧o=w:=by
 have L:(97≤c∧c≤122)∨(65≤c∧c≤90)∨(48≤c∧c≤57)∨c=95∨c=36∨(c<65∧¬(48≤c∧c≤57)∧c≠36)∨(91≤c∧c≤96∧c≠95)∨123≤c:=by omega
 rcases L with r|r|r|r|r|r|r|r
 ·have j:Hid (zB scr c=true):=zfr.2 (by omega)
  have E:decide (97≤c)=true:=decide_eq_true (by omega)
  have M:decide (c≤122)=true:=decide_eq_true (by omega)
  clear r
  go_enter Tryz.func39,Tryz.ntmps39
  go_wp2_with (first|(go_at_call 38;refine (zbU _ _ D z).mono ?_;rintro e o ⟨rfl,rfl⟩))
  go_ret
  exact⟨zq j.out.symm,rfl⟩
 ·have j:Hid (zB scr c=true):=zfr.2 (by omega)
  have E:decide (97≤c)=false:=decide_eq_false (by omega)
  have H:decide (65≤c)=true:=decide_eq_true (by omega)
  have K:decide (c≤90)=true:=decide_eq_true (by omega)
  clear r
  go_enter Tryz.func39,Tryz.ntmps39
  go_wp2_with (first|(go_at_call 38;refine (zbU _ _ D z).mono ?_;rintro e o ⟨rfl,rfl⟩))
  go_ret
  exact⟨zq j.out.symm,rfl⟩
 ·have j:Hid (zB scr c=true):=zfr.2 (by omega)
  have E:decide (97≤c)=false:=decide_eq_false (by omega)
  have H:decide (65≤c)=false:=decide_eq_false (by omega)
  have hd:zG c=true:=zbV.2 r
  clear r
  go_enter Tryz.func39,Tryz.ntmps39
  go_wp2_with (first|(go_at_call 38;refine (zbU _ _ D z).mono ?_;rintro e o ⟨rfl,rfl⟩))
  go_ret
  exact⟨zq j.out.symm,rfl⟩
 ·have j:Hid (zB scr c=true):=zfr.2 (by omega)
  have E:decide (97≤c)=false:=decide_eq_false (by omega)
  have H:decide (65≤c)=true:=decide_eq_true (by omega)
  have K:decide (c≤90)=false:=decide_eq_false (by omega)
  have hd:zG c=false:=zcP (by omega)
  have I:(c==95)=true:=beq_iff_eq.2 (by omega)
  clear r
  go_enter Tryz.func39,Tryz.ntmps39
  go_wp2_with (first|(go_at_call 38;refine (zbU _ _ D z).mono ?_;rintro e o ⟨rfl,rfl⟩))
  go_ret
  exact⟨zq j.out.symm,rfl⟩
 ·cases scr
  ·have j:Hid (zB false c=false):=ze8 (by simp;omega)
   have E:decide (97≤c)=false:=decide_eq_false (by omega)
   have H:decide (65≤c)=false:=decide_eq_false (by omega)
   have hd:zG c=false:=zcP (by omega)
   have I:(c==95)=false:=beq_eq_false_iff_ne.2 (by omega)
   have J:(c==36)=true:=beq_iff_eq.2 (by omega)
   clear r
   go_enter Tryz.func39,Tryz.ntmps39
   go_wp2_with (first|(go_at_call 38;refine (zbU _ _ D z).mono ?_;rintro e o ⟨rfl,rfl⟩))
   go_ret
   exact⟨zq j.out.symm,rfl⟩
  ·have j:Hid (zB true c=true):=zfr.2 (by simp;omega)
   have E:decide (97≤c)=false:=decide_eq_false (by omega)
   have H:decide (65≤c)=false:=decide_eq_false (by omega)
   have hd:zG c=false:=zcP (by omega)
   have I:(c==95)=false:=beq_eq_false_iff_ne.2 (by omega)
   have J:(c==36)=true:=beq_iff_eq.2 (by omega)
   clear r
   go_enter Tryz.func39,Tryz.ntmps39
   go_wp2_with (first|(go_at_call 38;refine (zbU _ _ D z).mono ?_;rintro e o ⟨rfl,rfl⟩))
   go_ret
   exact⟨zq j.out.symm,rfl⟩
 ·cases scr
  ·have j:Hid (zB false c=false):=ze8 (by simp;omega)
   have E:decide (97≤c)=false:=decide_eq_false (by omega)
   have H:decide (65≤c)=false:=decide_eq_false (by omega)
   have hd:zG c=false:=zcP (by omega)
   have I:(c==95)=false:=beq_eq_false_iff_ne.2 (by omega)
   have J:(c==36)=false:=beq_eq_false_iff_ne.2 (by omega)
   clear r
   go_enter Tryz.func39,Tryz.ntmps39
   go_wp2_with (first|(go_at_call 38;refine (zbU _ _ D z).mono ?_;rintro e o ⟨rfl,rfl⟩))
   go_ret
   exact⟨zq j.out.symm,rfl⟩
  ·have j:Hid (zB true c=false):=ze8 (by simp;omega)
   have E:decide (97≤c)=false:=decide_eq_false (by omega)
   have H:decide (65≤c)=false:=decide_eq_false (by omega)
   have hd:zG c=false:=zcP (by omega)
   have I:(c==95)=false:=beq_eq_false_iff_ne.2 (by omega)
   have J:(c==36)=false:=beq_eq_false_iff_ne.2 (by omega)
   clear r
   go_enter Tryz.func39,Tryz.ntmps39
   go_wp2_with (first|(go_at_call 38;refine (zbU _ _ D z).mono ?_;rintro e o ⟨rfl,rfl⟩))
   go_ret
   exact⟨zq j.out.symm,rfl⟩
 ·cases scr
  ·have j:Hid (zB false c=false):=ze8 (by simp;omega)
   have E:decide (97≤c)=false:=decide_eq_false (by omega)
   have H:decide (65≤c)=true:=decide_eq_true (by omega)
   have K:decide (c≤90)=false:=decide_eq_false (by omega)
   have hd:zG c=false:=zcP (by omega)
   have I:(c==95)=false:=beq_eq_false_iff_ne.2 (by omega)
   have J:(c==36)=false:=beq_eq_false_iff_ne.2 (by omega)
   clear r
   go_enter Tryz.func39,Tryz.ntmps39
   go_wp2_with (first|(go_at_call 38;refine (zbU _ _ D z).mono ?_;rintro e o ⟨rfl,rfl⟩))
   go_ret
   exact⟨zq j.out.symm,rfl⟩
  ·have j:Hid (zB true c=false):=ze8 (by simp;omega)
   have E:decide (97≤c)=false:=decide_eq_false (by omega)
   have H:decide (65≤c)=true:=decide_eq_true (by omega)
   have K:decide (c≤90)=false:=decide_eq_false (by omega)
   have hd:zG c=false:=zcP (by omega)
   have I:(c==95)=false:=beq_eq_false_iff_ne.2 (by omega)
   have J:(c==36)=false:=beq_eq_false_iff_ne.2 (by omega)
   clear r
   go_enter Tryz.func39,Tryz.ntmps39
   go_wp2_with (first|(go_at_call 38;refine (zbU _ _ D z).mono ?_;rintro e o ⟨rfl,rfl⟩))
   go_ret
   exact⟨zq j.out.symm,rfl⟩
 ·cases scr
  ·have j:Hid (zB false c=false):=ze8 (by simp;omega)
   have E:decide (97≤c)=true:=decide_eq_true (by omega)
   have M:decide (c≤122)=false:=decide_eq_false (by omega)
   have H:decide (65≤c)=true:=decide_eq_true (by omega)
   have K:decide (c≤90)=false:=decide_eq_false (by omega)
   have hd:zG c=false:=zcP (by omega)
   have I:(c==95)=false:=beq_eq_false_iff_ne.2 (by omega)
   have J:(c==36)=false:=beq_eq_false_iff_ne.2 (by omega)
   clear r
   go_enter Tryz.func39,Tryz.ntmps39
   go_wp2_with (first|(go_at_call 38;refine (zbU _ _ D z).mono ?_;rintro e o ⟨rfl,rfl⟩))
   go_ret
   exact⟨zq j.out.symm,rfl⟩
  ·have j:Hid (zB true c=false):=ze8 (by simp;omega)
   have E:decide (97≤c)=true:=decide_eq_true (by omega)
   have M:decide (c≤122)=false:=decide_eq_false (by omega)
   have H:decide (65≤c)=true:=decide_eq_true (by omega)
   have K:decide (c≤90)=false:=decide_eq_false (by omega)
   have hd:zG c=false:=zcP (by omega)
   have I:(c==95)=false:=beq_eq_false_iff_ne.2 (by omega)
   have J:(c==36)=false:=beq_eq_false_iff_ne.2 (by omega)
   clear r
   go_enter Tryz.func39,Tryz.ntmps39
   go_wp2_with (first|(go_at_call 38;refine (zbU _ _ D z).mono ?_;rintro e o ⟨rfl,rfl⟩))
   go_ret
   exact⟨zq j.out.symm,rfl⟩
def ze9 (c:Int):Bool:=decide (zbn c)
theorem zhl (c:Int) (w:World) (O:0≤c) (N:c≤255):
  Calls Tryz.prog 84 #[.int .u8 c] w fun e I=>e= .returned (.bool (ze9 c))∧I=w:=by
 have o:c<32∨127≤c∨c=34∨c=92∨zbn c:=by unfold zbn;omega
 rcases o with r|r|r|r|r
 ·have j:Hid (ze9 c=false):=decide_eq_false (fun h=>by unfold zbn at h;omega)
  have z:decide (32≤c)=false:=decide_eq_false (by omega)
  clear r
  go_enter Tryz.func84,Tryz.ntmps84
  go_wp2
  go_ret
  exact⟨zq j.out.symm,rfl⟩
 ·have j:Hid (ze9 c=false):=decide_eq_false (fun h=>by unfold zbn at h;omega)
  have z:decide (32≤c)=true:=decide_eq_true (by omega)
  have H:decide (c≤126)=false:=decide_eq_false (by omega)
  clear r
  go_enter Tryz.func84,Tryz.ntmps84
  go_wp2
  go_ret
  exact⟨zq j.out.symm,rfl⟩
 ·have j:Hid (ze9 c=false):=decide_eq_false (fun h=>by unfold zbn at h;omega)
  subst r
  go_enter Tryz.func84,Tryz.ntmps84
  go_wp2
  go_ret
  exact⟨zq j.out.symm,rfl⟩
 ·have j:Hid (ze9 c=false):=decide_eq_false (fun h=>by unfold zbn at h;omega)
  subst r
  go_enter Tryz.func84,Tryz.ntmps84
  go_wp2
  go_ret
  exact⟨zq j.out.symm,rfl⟩
 ·have j:Hid (ze9 c=true):=decide_eq_true r
  obtain⟨E,J,K,D⟩:=r
  have z:decide (32≤c)=true:=decide_eq_true (by omega)
  have H:decide (c≤126)=true:=decide_eq_true (by omega)
  have L:(c !=34)=true:=bne_iff_ne.2 (by omega)
  have M:(c !=92)=true:=bne_iff_ne.2 (by omega)
  clear E J K D
  go_enter Tryz.func84,Tryz.ntmps84
  go_wp2
  go_ret
  exact⟨zq j.out.symm,rfl⟩
abbrev zeA (c:Int):Prop:=48≤c∧c≤57
def dv (s:ByteArray) (p:Nat):Nat→Int
 |0=>0
 |k+1=>dv s p k*10+(bt s (p+k)-48)
theorem ztB (s:ByteArray) (p k:Nat) (h: ∀j,j<k→zeA (bt s (p+j))):0≤dv s p k∧dv s p k<10^k:=by
 induction k with
 |zero=>simp[dv]
 |succ k o=>
  obtain⟨a,b⟩:=o (fun j z=>h j (by omega))
  have c:=h k (by omega)
  unfold zeA at c
  rw[dv,zdK]
  omega
theorem ztC (k:Nat) (h:k≤9):(10:Int)^k≤1000000000:=by
 have:=zf1 h
 have e:(10:Int)^9=1000000000:=by decide
 omega
def pfx (s:ByteArray):Nat:=if bt s 0=45 then 1 else 0
theorem ztD (s:ByteArray):pfx s≤s.size:=by
 unfold pfx
 split
 ·rename_i h
  rcases Nat.eq_zero_or_pos s.size with e|e
  ·rw[bt_end s (by omega)] at h
   omega
  ·omega
 ·omega
abbrev RdP (s:ByteArray):Prop:=
 1≤s.size-pfx s∧s.size-pfx s≤9∧(∀j,j<s.size-pfx s→zeA (bt s (pfx s+j)))∧(bt s (pfx s)≠48∨(pfx s=0∧s.size=1))
def zft (s:ByteArray):Bool:=decide (RdP s)
def rdV (s:ByteArray):Int:=if zft s then (if pfx s=1 then-dv s 1 (s.size-1) else dv s 0 s.size) else 0
theorem zge {s:ByteArray} (h:RdP s):zft s=true:=decide_eq_true h
theorem zdE {s:ByteArray} (h: ¬RdP s):zft s=false:=decide_eq_false h
theorem zeB {s:ByteArray} (h: ¬RdP s):rdV s=0:=by rw[rdV,zdE h];rfl
def spV (s:ByteArray):Nat→Int
 |0=>0
 |k+1=>if zeA (bt s k) then spV s k*10+(bt s k-48) else spV s k
def spK (s:ByteArray):Nat→Int
 |0=>0
 |k+1=>if zeA (bt s k) then spK s k+1 else spK s k
def spN (s:ByteArray):Int:=if bt s 0=45 then-spV s s.size else spV s s.size
end Go.Proofs.YthfeoomfiafldaaGreat
