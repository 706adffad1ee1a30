/-
  What impl.isDigit,impl.isNameByte and impl.isStrByte answer: the walks.
  Plain facts on which texts are decimal numbers of at most nine digits,and of which. No program is spoken of.
-/
import Derived.Test.YtlnohpdiiileeaaGreatProg
import Derived.WalkKit
import Derived.WalkLawsBesides
import Derived.Test.YtlnohpdiiileeaaGreatClDrawBaseToTokMem
import Derived.Test.YtlnohpdiiileeaaGreatClBytes
namespace Go.Proofs.YtlnohpdiiileeaaGreat
set_option maxHeartbeats 1600000
open Go.RowKit Go.PlainAid
theorem zht {c:Int} (h: ¬(48≤c∧c≤57)):digB c=false:=decide_eq_false h
theorem zlx {c:Int} {scr:Bool}:worB scr c=true↔(97≤c∧c≤122)∨(65≤c∧c≤90)∨c=95∨(scr=true∧c=36)∨(48≤c∧c≤57):=by rw[worB,Bool.or_eq_true,ziq,zei];simp only[or_assoc]
theorem zly {c:Int} {scr:Bool} (h: ¬((97≤c∧c≤122)∨(65≤c∧c≤90)∨c=95∨(scr=true∧c=36)∨(48≤c∧c≤57))):worB scr c=false:=Bool.eq_false_iff.2 fun e=>h (zlx.1 e)
theorem zco (c:Int) (w:World) (_:0≤c) (_:c≤255):
  Calls Tryz.prog 139 #[.int .u8 c] w fun e w'=>e= .returned (.bool (digB c))∧w'=w:=by
 by_cases a1:48≤c
 ·by_cases a2:c≤57
  ·have HV:Hid (digB c=true):=zei.2 ⟨a1,a2⟩
   have d1:decide (48≤c)=true:=decide_eq_true (by omega)
   have d2:decide (c≤57)=true:=decide_eq_true (by omega)
   go_enter Tryz.func139,Tryz.ntmps139
   go_wp2
   go_ret
   exact⟨zi HV.out.symm,rfl⟩
  ·have HV:Hid (digB c=false):=zht (by omega)
   have d1:decide (48≤c)=true:=decide_eq_true (by omega)
   have d2:decide (c≤57)=false:=decide_eq_false (by omega)
   go_enter Tryz.func139,Tryz.ntmps139
   go_wp2
   go_ret
   exact⟨zi HV.out.symm,rfl⟩
 ·have HV:Hid (digB c=false):=zht (by omega)
  have d1:decide (48≤c)=false:=decide_eq_false (by omega)
  go_enter Tryz.func139,Tryz.ntmps139
  go_wp2
  go_ret
  exact⟨zi HV.out.symm,rfl⟩
theorem zgr (c:Int) (scr:Bool) (w:World) (h0:0≤c) (h1:c≤255):
  Calls Tryz.prog 140 #[.int .u8 c,.bool scr] w fun e w'=>e= .returned (.bool (worB scr c))∧w'=w:=by
 have hreg:(97≤c∧c≤122)∨(65≤c∧c≤90)∨(48≤c∧c≤57)∨c=95∨c=36∨(c<65∧¬(48≤c∧c≤57)∧c≠36)∨(91≤c∧c≤96∧c≠95)∨123≤c:=by omega
 rcases hreg with r|r|r|r|r|r|r|r
 ·have HV:Hid (worB scr c=true):=zlx.2 (by omega)
  have d1:decide (97≤c)=true:=decide_eq_true (by omega)
  have d2:decide (c≤122)=true:=decide_eq_true (by omega)
  clear r
  go_enter Tryz.func140,Tryz.ntmps140
  go_wp2_with (first|(go_at_call 139;refine (zco _ _ h0 h1).mono ?_;rintro e w' ⟨rfl,rfl⟩))
  go_ret
  exact⟨zi HV.out.symm,rfl⟩
 ·have HV:Hid (worB scr c=true):=zlx.2 (by omega)
  have d1:decide (97≤c)=false:=decide_eq_false (by omega)
  have d3:decide (65≤c)=true:=decide_eq_true (by omega)
  have d4:decide (c≤90)=true:=decide_eq_true (by omega)
  clear r
  go_enter Tryz.func140,Tryz.ntmps140
  go_wp2_with (first|(go_at_call 139;refine (zco _ _ h0 h1).mono ?_;rintro e w' ⟨rfl,rfl⟩))
  go_ret
  exact⟨zi HV.out.symm,rfl⟩
 ·have HV:Hid (worB scr c=true):=zlx.2 (by omega)
  have d1:decide (97≤c)=false:=decide_eq_false (by omega)
  have d3:decide (65≤c)=false:=decide_eq_false (by omega)
  have hd:digB c=true:=zei.2 r
  clear r
  go_enter Tryz.func140,Tryz.ntmps140
  go_wp2_with (first|(go_at_call 139;refine (zco _ _ h0 h1).mono ?_;rintro e w' ⟨rfl,rfl⟩))
  go_ret
  exact⟨zi HV.out.symm,rfl⟩
 ·have HV:Hid (worB scr c=true):=zlx.2 (by omega)
  have d1:decide (97≤c)=false:=decide_eq_false (by omega)
  have d3:decide (65≤c)=true:=decide_eq_true (by omega)
  have d4:decide (c≤90)=false:=decide_eq_false (by omega)
  have hd:digB c=false:=zht (by omega)
  have e1:(c==95)=true:=beq_iff_eq.2 (by omega)
  clear r
  go_enter Tryz.func140,Tryz.ntmps140
  go_wp2_with (first|(go_at_call 139;refine (zco _ _ h0 h1).mono ?_;rintro e w' ⟨rfl,rfl⟩))
  go_ret
  exact⟨zi HV.out.symm,rfl⟩
 ·cases scr
  ·have HV:Hid (worB false c=false):=zly (by simp;omega)
   have d1:decide (97≤c)=false:=decide_eq_false (by omega)
   have d3:decide (65≤c)=false:=decide_eq_false (by omega)
   have hd:digB c=false:=zht (by omega)
   have e1:(c==95)=false:=beq_eq_false_iff_ne.2 (by omega)
   have e2:(c==36)=true:=beq_iff_eq.2 (by omega)
   clear r
   go_enter Tryz.func140,Tryz.ntmps140
   go_wp2_with (first|(go_at_call 139;refine (zco _ _ h0 h1).mono ?_;rintro e w' ⟨rfl,rfl⟩))
   go_ret
   exact⟨zi HV.out.symm,rfl⟩
  ·have HV:Hid (worB true c=true):=zlx.2 (by simp;omega)
   have d1:decide (97≤c)=false:=decide_eq_false (by omega)
   have d3:decide (65≤c)=false:=decide_eq_false (by omega)
   have hd:digB c=false:=zht (by omega)
   have e1:(c==95)=false:=beq_eq_false_iff_ne.2 (by omega)
   have e2:(c==36)=true:=beq_iff_eq.2 (by omega)
   clear r
   go_enter Tryz.func140,Tryz.ntmps140
   go_wp2_with (first|(go_at_call 139;refine (zco _ _ h0 h1).mono ?_;rintro e w' ⟨rfl,rfl⟩))
   go_ret
   exact⟨zi HV.out.symm,rfl⟩
 ·cases scr
  ·have HV:Hid (worB false c=false):=zly (by simp;omega)
   have d1:decide (97≤c)=false:=decide_eq_false (by omega)
   have d3:decide (65≤c)=false:=decide_eq_false (by omega)
   have hd:digB c=false:=zht (by omega)
   have e1:(c==95)=false:=beq_eq_false_iff_ne.2 (by omega)
   have e2:(c==36)=false:=beq_eq_false_iff_ne.2 (by omega)
   clear r
   go_enter Tryz.func140,Tryz.ntmps140
   go_wp2_with (first|(go_at_call 139;refine (zco _ _ h0 h1).mono ?_;rintro e w' ⟨rfl,rfl⟩))
   go_ret
   exact⟨zi HV.out.symm,rfl⟩
  ·have HV:Hid (worB true c=false):=zly (by simp;omega)
   have d1:decide (97≤c)=false:=decide_eq_false (by omega)
   have d3:decide (65≤c)=false:=decide_eq_false (by omega)
   have hd:digB c=false:=zht (by omega)
   have e1:(c==95)=false:=beq_eq_false_iff_ne.2 (by omega)
   have e2:(c==36)=false:=beq_eq_false_iff_ne.2 (by omega)
   clear r
   go_enter Tryz.func140,Tryz.ntmps140
   go_wp2_with (first|(go_at_call 139;refine (zco _ _ h0 h1).mono ?_;rintro e w' ⟨rfl,rfl⟩))
   go_ret
   exact⟨zi HV.out.symm,rfl⟩
 ·cases scr
  ·have HV:Hid (worB false c=false):=zly (by simp;omega)
   have d1:decide (97≤c)=false:=decide_eq_false (by omega)
   have d3:decide (65≤c)=true:=decide_eq_true (by omega)
   have d4:decide (c≤90)=false:=decide_eq_false (by omega)
   have hd:digB c=false:=zht (by omega)
   have e1:(c==95)=false:=beq_eq_false_iff_ne.2 (by omega)
   have e2:(c==36)=false:=beq_eq_false_iff_ne.2 (by omega)
   clear r
   go_enter Tryz.func140,Tryz.ntmps140
   go_wp2_with (first|(go_at_call 139;refine (zco _ _ h0 h1).mono ?_;rintro e w' ⟨rfl,rfl⟩))
   go_ret
   exact⟨zi HV.out.symm,rfl⟩
  ·have HV:Hid (worB true c=false):=zly (by simp;omega)
   have d1:decide (97≤c)=false:=decide_eq_false (by omega)
   have d3:decide (65≤c)=true:=decide_eq_true (by omega)
   have d4:decide (c≤90)=false:=decide_eq_false (by omega)
   have hd:digB c=false:=zht (by omega)
   have e1:(c==95)=false:=beq_eq_false_iff_ne.2 (by omega)
   have e2:(c==36)=false:=beq_eq_false_iff_ne.2 (by omega)
   clear r
   go_enter Tryz.func140,Tryz.ntmps140
   go_wp2_with (first|(go_at_call 139;refine (zco _ _ h0 h1).mono ?_;rintro e w' ⟨rfl,rfl⟩))
   go_ret
   exact⟨zi HV.out.symm,rfl⟩
 ·cases scr
  ·have HV:Hid (worB false c=false):=zly (by simp;omega)
   have d1:decide (97≤c)=true:=decide_eq_true (by omega)
   have d2:decide (c≤122)=false:=decide_eq_false (by omega)
   have d3:decide (65≤c)=true:=decide_eq_true (by omega)
   have d4:decide (c≤90)=false:=decide_eq_false (by omega)
   have hd:digB c=false:=zht (by omega)
   have e1:(c==95)=false:=beq_eq_false_iff_ne.2 (by omega)
   have e2:(c==36)=false:=beq_eq_false_iff_ne.2 (by omega)
   clear r
   go_enter Tryz.func140,Tryz.ntmps140
   go_wp2_with (first|(go_at_call 139;refine (zco _ _ h0 h1).mono ?_;rintro e w' ⟨rfl,rfl⟩))
   go_ret
   exact⟨zi HV.out.symm,rfl⟩
  ·have HV:Hid (worB true c=false):=zly (by simp;omega)
   have d1:decide (97≤c)=true:=decide_eq_true (by omega)
   have d2:decide (c≤122)=false:=decide_eq_false (by omega)
   have d3:decide (65≤c)=true:=decide_eq_true (by omega)
   have d4:decide (c≤90)=false:=decide_eq_false (by omega)
   have hd:digB c=false:=zht (by omega)
   have e1:(c==95)=false:=beq_eq_false_iff_ne.2 (by omega)
   have e2:(c==36)=false:=beq_eq_false_iff_ne.2 (by omega)
   clear r
   go_enter Tryz.func140,Tryz.ntmps140
   go_wp2_with (first|(go_at_call 139;refine (zco _ _ h0 h1).mono ?_;rintro e w' ⟨rfl,rfl⟩))
   go_ret
   exact⟨zi HV.out.symm,rfl⟩
def strB (c:Int):Bool:=decide (zgk c)
theorem zjq (c:Int) (w:World) (h0:0≤c) (h1:c≤255):
  Calls Tryz.prog 224 #[.int .u8 c] w fun e w'=>e= .returned (.bool (strB c))∧w'=w:=by
 have hreg:c<32∨127≤c∨c=34∨c=92∨zgk c:=by unfold zgk;omega
 rcases hreg with r|r|r|r|r
 ·have HV:Hid (strB c=false):=decide_eq_false (fun h=>by unfold zgk at h;omega)
  have d1:decide (32≤c)=false:=decide_eq_false (by omega)
  clear r
  go_enter Tryz.func224,Tryz.ntmps224
  go_wp2
  go_ret
  exact⟨zi HV.out.symm,rfl⟩
 ·have HV:Hid (strB c=false):=decide_eq_false (fun h=>by unfold zgk at h;omega)
  have d1:decide (32≤c)=true:=decide_eq_true (by omega)
  have d2:decide (c≤126)=false:=decide_eq_false (by omega)
  clear r
  go_enter Tryz.func224,Tryz.ntmps224
  go_wp2
  go_ret
  exact⟨zi HV.out.symm,rfl⟩
 ·have HV:Hid (strB c=false):=decide_eq_false (fun h=>by unfold zgk at h;omega)
  subst r
  go_enter Tryz.func224,Tryz.ntmps224
  go_wp2
  go_ret
  exact⟨zi HV.out.symm,rfl⟩
 ·have HV:Hid (strB c=false):=decide_eq_false (fun h=>by unfold zgk at h;omega)
  subst r
  go_enter Tryz.func224,Tryz.ntmps224
  go_wp2
  go_ret
  exact⟨zi HV.out.symm,rfl⟩
 ·have HV:Hid (strB c=true):=decide_eq_true r
  obtain⟨r1,r2,r3,r4⟩:=r
  have d1:decide (32≤c)=true:=decide_eq_true (by omega)
  have d2:decide (c≤126)=true:=decide_eq_true (by omega)
  have n1:(c !=34)=true:=bne_iff_ne.2 (by omega)
  have n2:(c !=92)=true:=bne_iff_ne.2 (by omega)
  clear r1 r2 r3 r4
  go_enter Tryz.func224,Tryz.ntmps224
  go_wp2
  go_ret
  exact⟨zi HV.out.symm,rfl⟩
/-- Is c a digit? -/
abbrev zqx (c:Int):Prop:=48≤c∧c≤57
/-- What k digits from place p on say. -/
def dv (s:ByteArray) (p:Nat):Nat→Int
 |0=>0
 |k+1=>dv s p k*10+(bt s (p+k)-48)
theorem zbxv (s:ByteArray) (p k:Nat) (h: ∀j,j<k→zqx (bt s (p+j))):0≤dv s p k∧dv s p k<10^k:=by
 induction k with
 |zero=>simp[dv]
 |succ k ih=>
  obtain⟨a,b⟩:=ih (fun j hj=>h j (by omega))
  have c:=h k (by omega)
  unfold zqx at c
  rw[dv,zmt]
  omega
theorem zbri (k:Nat) (h:k≤9):(10:Int)^k≤1000000000:=by
 have:=zks h
 have e:(10:Int)^9=1000000000:=by decide
 omega
/-- 1 where a - is ahead, else 0. -/
def pfx (s:ByteArray):Nat:=if bt s 0=45 then 1 else 0
theorem zbxc (s:ByteArray):pfx s≤s.size:=by
 unfold pfx
 split
 ·rename_i h
  rcases Nat.eq_zero_or_pos s.size with e|e
  ·rw[bt_end s (by omega)] at h
   omega
  ·omega
 ·omega
/-- Is the text a decimal number of at most nine digits? -/
abbrev RdP (s:ByteArray):Prop:=
 1≤s.size-pfx s∧s.size-pfx s≤9∧(∀j,j<s.size-pfx s→zqx (bt s (pfx s+j)))∧(bt s (pfx s)≠48∨(pfx s=0∧s.size=1))
def rdOk (s:ByteArray):Bool:=decide (RdP s)
def rdV (s:ByteArray):Int:=if rdOk s then (if pfx s=1 then-dv s 1 (s.size-1) else dv s 0 s.size) else 0
theorem znx {s:ByteArray} (h:RdP s):rdOk s=true:=decide_eq_true h
theorem zji {s:ByteArray} (h: ¬RdP s):rdOk s=false:=decide_eq_false h
theorem zny {s:ByteArray} (h: ¬RdP s):rdV s=0:=by rw[rdV,zji h];rfl
/-- What the digits among the first k bytes say, and how many they are. -/
def spV (s:ByteArray):Nat→Int
 |0=>0
 |k+1=>if zqx (bt s k) then spV s k*10+(bt s k-48) else spV s k
def spK (s:ByteArray):Nat→Int
 |0=>0
 |k+1=>if zqx (bt s k) then spK s k+1 else spK s k
/-- The number that is tried. -/
def spN (s:ByteArray):Int:=if bt s 0=45 then-spV s s.size else spV s s.size
theorem lead (m:Int) (h0:1≤m) (h1:m≤18446744073709551615):48+m/10^(dcn m-1)%10≠48:=by
 obtain⟨a,b,c,d⟩:=zfu m (by omega) h1
 have e:m/10^(dcn m-1)<10:=by
  rw[Int.ediv_lt_iff_lt_mul (zha _),Int.mul_comm,←zmt,show dcn m-1+1=dcn m from by omega]
  exact c
 have f:1≤m/10^(dcn m-1):=by
  rw[Int.le_ediv_iff_mul_le (zha _),Int.one_mul]
  rcases d with d|d
  ·rw[d];simpa using h0
  ·exact d
 omega
end Go.Proofs.YtlnohpdiiileeaaGreat
