/-
  What impl.isDigit,impl.isNameByte and impl.isStrByte answer: the walks.
  Plain facts on which texts are decimal numbers of at most nine digits,and of which. No program is spoken of.
-/
import Derived.Test.YticdggnnpjachaaGreatCbDrawBaseToDrawText
namespace Go.Proofs.YticdggnnpjachaaGreat
set_option maxHeartbeats 1600000
open Go.RowKit Go.PlainAid
theorem zc9 {c:Int} (h: ¬(48≤c∧c≤57)):zF c=false:=decide_eq_false h
theorem zes {c:Int} {j:Bool}:zG j c=true↔(97≤c∧c≤122)∨(65≤c∧c≤90)∨c=95∨(j=true∧c=36)∨(48≤c∧c≤57):=by rw[zG,Bool.or_eq_true,zdu,zch];simp only[or_assoc]
theorem zdG {c:Int} {j:Bool} (h: ¬((97≤c∧c≤122)∨(65≤c∧c≤90)∨c=95∨(j=true∧c=36)∨(48≤c∧c≤57))):zG j c=false:=Bool.eq_false_iff.2 fun e=>h (zes.1 e)
theorem zb8 (c:Int) (w:World) (_:0≤c) (_:c≤255):
  Calls Tryz.prog 82 #[.int .u8 c] w fun e A=>e= .returned (.bool (zF c))∧A=w:=by
 by_cases q:48≤c
 ·by_cases o:c≤57
  ·have j:Hid (zF c=true):=zch.2 ⟨q,o⟩
   have n:decide (48≤c)=true:=decide_eq_true (by omega)
   have z:decide (c≤57)=true:=decide_eq_true (by omega)
   go_enter Tryz.func82,Tryz.ntmps82
   go_wp2
   go_ret
   exact⟨zm j.out.symm,rfl⟩
  ·have j:Hid (zF c=false):=zc9 (by omega)
   have n:decide (48≤c)=true:=decide_eq_true (by omega)
   have z:decide (c≤57)=false:=decide_eq_false (by omega)
   go_enter Tryz.func82,Tryz.ntmps82
   go_wp2
   go_ret
   exact⟨zm j.out.symm,rfl⟩
 ·have j:Hid (zF c=false):=zc9 (by omega)
  have n:decide (48≤c)=false:=decide_eq_false (by omega)
  go_enter Tryz.func82,Tryz.ntmps82
  go_wp2
  go_ret
  exact⟨zm j.out.symm,rfl⟩
theorem zet (c:Int) (n:Bool) (w:World) (q:0≤c) (z:c≤255):
  Calls Tryz.prog 83 #[.int .u8 c,.bool n] w fun e o=>e= .returned (.bool (zG n c))∧o=w:=by
 have J:(97≤c∧c≤122)∨(65≤c∧c≤90)∨(48≤c∧c≤57)∨c=95∨c=36∨(c<65∧¬(48≤c∧c≤57)∧c≠36)∨(91≤c∧c≤96∧c≠95)∨123≤c:=by omega
 rcases J with r|r|r|r|r|r|r|r
 ·have j:Hid (zG n c=true):=zes.2 (by omega)
  have A:decide (97≤c)=true:=decide_eq_true (by omega)
  have L:decide (c≤122)=true:=decide_eq_true (by omega)
  clear r
  go_enter Tryz.func83,Tryz.ntmps83
  go_wp2_with (first|(go_at_call 82;refine (zb8 _ _ q z).mono ?_;rintro e o ⟨rfl,rfl⟩))
  go_ret
  exact⟨zm j.out.symm,rfl⟩
 ·have j:Hid (zG n c=true):=zes.2 (by omega)
  have A:decide (97≤c)=false:=decide_eq_false (by omega)
  have D:decide (65≤c)=true:=decide_eq_true (by omega)
  have K:decide (c≤90)=true:=decide_eq_true (by omega)
  clear r
  go_enter Tryz.func83,Tryz.ntmps83
  go_wp2_with (first|(go_at_call 82;refine (zb8 _ _ q z).mono ?_;rintro e o ⟨rfl,rfl⟩))
  go_ret
  exact⟨zm j.out.symm,rfl⟩
 ·have j:Hid (zG n c=true):=zes.2 (by omega)
  have A:decide (97≤c)=false:=decide_eq_false (by omega)
  have D:decide (65≤c)=false:=decide_eq_false (by omega)
  have E:zF c=true:=zch.2 r
  clear r
  go_enter Tryz.func83,Tryz.ntmps83
  go_wp2_with (first|(go_at_call 82;refine (zb8 _ _ q z).mono ?_;rintro e o ⟨rfl,rfl⟩))
  go_ret
  exact⟨zm j.out.symm,rfl⟩
 ·have j:Hid (zG n c=true):=zes.2 (by omega)
  have A:decide (97≤c)=false:=decide_eq_false (by omega)
  have D:decide (65≤c)=true:=decide_eq_true (by omega)
  have K:decide (c≤90)=false:=decide_eq_false (by omega)
  have E:zF c=false:=zc9 (by omega)
  have H:(c==95)=true:=beq_iff_eq.2 (by omega)
  clear r
  go_enter Tryz.func83,Tryz.ntmps83
  go_wp2_with (first|(go_at_call 82;refine (zb8 _ _ q z).mono ?_;rintro e o ⟨rfl,rfl⟩))
  go_ret
  exact⟨zm j.out.symm,rfl⟩
 ·cases n
  ·have j:Hid (zG false c=false):=zdG (by simp;omega)
   have A:decide (97≤c)=false:=decide_eq_false (by omega)
   have D:decide (65≤c)=false:=decide_eq_false (by omega)
   have E:zF c=false:=zc9 (by omega)
   have H:(c==95)=false:=beq_eq_false_iff_ne.2 (by omega)
   have I:(c==36)=true:=beq_iff_eq.2 (by omega)
   clear r
   go_enter Tryz.func83,Tryz.ntmps83
   go_wp2_with (first|(go_at_call 82;refine (zb8 _ _ q z).mono ?_;rintro e o ⟨rfl,rfl⟩))
   go_ret
   exact⟨zm j.out.symm,rfl⟩
  ·have j:Hid (zG true c=true):=zes.2 (by simp;omega)
   have A:decide (97≤c)=false:=decide_eq_false (by omega)
   have D:decide (65≤c)=false:=decide_eq_false (by omega)
   have E:zF c=false:=zc9 (by omega)
   have H:(c==95)=false:=beq_eq_false_iff_ne.2 (by omega)
   have I:(c==36)=true:=beq_iff_eq.2 (by omega)
   clear r
   go_enter Tryz.func83,Tryz.ntmps83
   go_wp2_with (first|(go_at_call 82;refine (zb8 _ _ q z).mono ?_;rintro e o ⟨rfl,rfl⟩))
   go_ret
   exact⟨zm j.out.symm,rfl⟩
 ·cases n
  ·have j:Hid (zG false c=false):=zdG (by simp;omega)
   have A:decide (97≤c)=false:=decide_eq_false (by omega)
   have D:decide (65≤c)=false:=decide_eq_false (by omega)
   have E:zF c=false:=zc9 (by omega)
   have H:(c==95)=false:=beq_eq_false_iff_ne.2 (by omega)
   have I:(c==36)=false:=beq_eq_false_iff_ne.2 (by omega)
   clear r
   go_enter Tryz.func83,Tryz.ntmps83
   go_wp2_with (first|(go_at_call 82;refine (zb8 _ _ q z).mono ?_;rintro e o ⟨rfl,rfl⟩))
   go_ret
   exact⟨zm j.out.symm,rfl⟩
  ·have j:Hid (zG true c=false):=zdG (by simp;omega)
   have A:decide (97≤c)=false:=decide_eq_false (by omega)
   have D:decide (65≤c)=false:=decide_eq_false (by omega)
   have E:zF c=false:=zc9 (by omega)
   have H:(c==95)=false:=beq_eq_false_iff_ne.2 (by omega)
   have I:(c==36)=false:=beq_eq_false_iff_ne.2 (by omega)
   clear r
   go_enter Tryz.func83,Tryz.ntmps83
   go_wp2_with (first|(go_at_call 82;refine (zb8 _ _ q z).mono ?_;rintro e o ⟨rfl,rfl⟩))
   go_ret
   exact⟨zm j.out.symm,rfl⟩
 ·cases n
  ·have j:Hid (zG false c=false):=zdG (by simp;omega)
   have A:decide (97≤c)=false:=decide_eq_false (by omega)
   have D:decide (65≤c)=true:=decide_eq_true (by omega)
   have K:decide (c≤90)=false:=decide_eq_false (by omega)
   have E:zF c=false:=zc9 (by omega)
   have H:(c==95)=false:=beq_eq_false_iff_ne.2 (by omega)
   have I:(c==36)=false:=beq_eq_false_iff_ne.2 (by omega)
   clear r
   go_enter Tryz.func83,Tryz.ntmps83
   go_wp2_with (first|(go_at_call 82;refine (zb8 _ _ q z).mono ?_;rintro e o ⟨rfl,rfl⟩))
   go_ret
   exact⟨zm j.out.symm,rfl⟩
  ·have j:Hid (zG true c=false):=zdG (by simp;omega)
   have A:decide (97≤c)=false:=decide_eq_false (by omega)
   have D:decide (65≤c)=true:=decide_eq_true (by omega)
   have K:decide (c≤90)=false:=decide_eq_false (by omega)
   have E:zF c=false:=zc9 (by omega)
   have H:(c==95)=false:=beq_eq_false_iff_ne.2 (by omega)
   have I:(c==36)=false:=beq_eq_false_iff_ne.2 (by omega)
   clear r
   go_enter Tryz.func83,Tryz.ntmps83
   go_wp2_with (first|(go_at_call 82;refine (zb8 _ _ q z).mono ?_;rintro e o ⟨rfl,rfl⟩))
   go_ret
   exact⟨zm j.out.symm,rfl⟩
 ·cases n
  ·have j:Hid (zG false c=false):=zdG (by simp;omega)
   have A:decide (97≤c)=true:=decide_eq_true (by omega)
   have L:decide (c≤122)=false:=decide_eq_false (by omega)
   have D:decide (65≤c)=true:=decide_eq_true (by omega)
   have K:decide (c≤90)=false:=decide_eq_false (by omega)
   have E:zF c=false:=zc9 (by omega)
   have H:(c==95)=false:=beq_eq_false_iff_ne.2 (by omega)
   have I:(c==36)=false:=beq_eq_false_iff_ne.2 (by omega)
   clear r
   go_enter Tryz.func83,Tryz.ntmps83
   go_wp2_with (first|(go_at_call 82;refine (zb8 _ _ q z).mono ?_;rintro e o ⟨rfl,rfl⟩))
   go_ret
   exact⟨zm j.out.symm,rfl⟩
  ·have j:Hid (zG true c=false):=zdG (by simp;omega)
   have A:decide (97≤c)=true:=decide_eq_true (by omega)
   have L:decide (c≤122)=false:=decide_eq_false (by omega)
   have D:decide (65≤c)=true:=decide_eq_true (by omega)
   have K:decide (c≤90)=false:=decide_eq_false (by omega)
   have E:zF c=false:=zc9 (by omega)
   have H:(c==95)=false:=beq_eq_false_iff_ne.2 (by omega)
   have I:(c==36)=false:=beq_eq_false_iff_ne.2 (by omega)
   clear r
   go_enter Tryz.func83,Tryz.ntmps83
   go_wp2_with (first|(go_at_call 82;refine (zb8 _ _ q z).mono ?_;rintro e o ⟨rfl,rfl⟩))
   go_ret
   exact⟨zm j.out.symm,rfl⟩
def zdH (c:Int):Bool:=decide (zbu c)
theorem zfM (c:Int) (w:World) (K:0≤c) (L:c≤255):
  Calls Tryz.prog 143 #[.int .u8 c] w fun e H=>e= .returned (.bool (zdH c))∧H=w:=by
 have n:c<32∨127≤c∨c=34∨c=92∨zbu c:=by unfold zbu;omega
 rcases n with r|r|r|r|r
 ·have j:Hid (zdH c=false):=decide_eq_false (fun h=>by unfold zbu at h;omega)
  have o:decide (32≤c)=false:=decide_eq_false (by omega)
  clear r
  go_enter Tryz.func143,Tryz.ntmps143
  go_wp2
  go_ret
  exact⟨zm j.out.symm,rfl⟩
 ·have j:Hid (zdH c=false):=decide_eq_false (fun h=>by unfold zbu at h;omega)
  have o:decide (32≤c)=true:=decide_eq_true (by omega)
  have E:decide (c≤126)=false:=decide_eq_false (by omega)
  clear r
  go_enter Tryz.func143,Tryz.ntmps143
  go_wp2
  go_ret
  exact⟨zm j.out.symm,rfl⟩
 ·have j:Hid (zdH c=false):=decide_eq_false (fun h=>by unfold zbu at h;omega)
  subst r
  go_enter Tryz.func143,Tryz.ntmps143
  go_wp2
  go_ret
  exact⟨zm j.out.symm,rfl⟩
 ·have j:Hid (zdH c=false):=decide_eq_false (fun h=>by unfold zbu at h;omega)
  subst r
  go_enter Tryz.func143,Tryz.ntmps143
  go_wp2
  go_ret
  exact⟨zm j.out.symm,rfl⟩
 ·have j:Hid (zdH c=true):=decide_eq_true r
  obtain⟨z,A,q,D⟩:=r
  have o:decide (32≤c)=true:=decide_eq_true (by omega)
  have E:decide (c≤126)=true:=decide_eq_true (by omega)
  have I:(c !=34)=true:=bne_iff_ne.2 (by omega)
  have J:(c !=92)=true:=bne_iff_ne.2 (by omega)
  clear z A q D
  go_enter Tryz.func143,Tryz.ntmps143
  go_wp2
  go_ret
  exact⟨zm j.out.symm,rfl⟩
abbrev zdI (c:Int):Prop:=48≤c∧c≤57
def dv (s:ByteArray) (p:Nat):Nat→Int
 |0=>0
 |k+1=>dv s p k*10+(bt s (p+k)-48)
theorem zqC (s:ByteArray) (p k:Nat) (h: ∀j,j<k→zdI (bt s (p+j))):0≤dv s p k∧dv s p k<10^k:=by
 induction k with
 |zero=>simp[dv]
 |succ k n=>
  obtain⟨a,b⟩:=n (fun j o=>h j (by omega))
  have c:=h k (by omega)
  unfold zdI at c
  rw[dv,zdw]
  omega
theorem zqD (k:Nat) (h:k≤9):(10:Int)^k≤1000000000:=by
 have:=ze3 h
 have e:(10:Int)^9=1000000000:=by decide
 omega
def pfx (s:ByteArray):Nat:=if bt s 0=45 then 1 else 0
theorem zqE (s:ByteArray):pfx s≤s.size:=by
 unfold pfx
 split
 ·rename_i h
  rcases Nat.eq_zero_or_pos s.size with e|e
  ·rw[bt_end s (by omega)] at h
   omega
  ·omega
 ·omega
abbrev RdP (s:ByteArray):Prop:=
 1≤s.size-pfx s∧s.size-pfx s≤9∧(∀j,j<s.size-pfx s→zdI (bt s (pfx s+j)))∧(bt s (pfx s)≠48∨(pfx s=0∧s.size=1))
def zeu (s:ByteArray):Bool:=decide (RdP s)
def rdV (s:ByteArray):Int:=if zeu s then (if pfx s=1 then-dv s 1 (s.size-1) else dv s 0 s.size) else 0
theorem zfe {s:ByteArray} (h:RdP s):zeu s=true:=decide_eq_true h
theorem zdi {s:ByteArray} (h: ¬RdP s):zeu s=false:=decide_eq_false h
theorem zdJ {s:ByteArray} (h: ¬RdP s):rdV s=0:=by rw[rdV,zdi h];rfl
def spV (s:ByteArray):Nat→Int
 |0=>0
 |k+1=>if zdI (bt s k) then spV s k*10+(bt s k-48) else spV s k
def spK (s:ByteArray):Nat→Int
 |0=>0
 |k+1=>if zdI (bt s k) then spK s k+1 else spK s k
def spN (s:ByteArray):Int:=if bt s 0=45 then-spV s s.size else spV s s.size
end Go.Proofs.YticdggnnpjachaaGreat
