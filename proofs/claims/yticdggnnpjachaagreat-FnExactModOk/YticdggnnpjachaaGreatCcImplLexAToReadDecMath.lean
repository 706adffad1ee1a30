/-
  What impl.isDigit,impl.isNameByte and impl.isStrByte answer: the walks.
  Plain facts on which texts are decimal numbers of at most nine digits,and of which. No program is spoken of.
-/
import Derived.Test.YticdggnnpjachaaGreatProg
import Derived.WalkLawsBesides
import Derived.Test.YticdggnnpjachaaGreatCcBytesToTreeMath
namespace Go.Proofs.YticdggnnpjachaaGreat
set_option maxHeartbeats 1600000
open Go.RowKit Go.PlainAid
theorem zcv {c:Int} (h: ¬(48≤c∧c≤57)):zD c=false:=decide_eq_false h
theorem zdT {c:Int} {h:Bool}:zE h c=true↔(97≤c∧c≤122)∨(65≤c∧c≤90)∨c=95∨(h=true∧c=36)∨(48≤c∧c≤57):=by rw[zE,Bool.or_eq_true,zda,zck];simp only[or_assoc]
theorem zds {c:Int} {j:Bool} (h: ¬((97≤c∧c≤122)∨(65≤c∧c≤90)∨c=95∨(j=true∧c=36)∨(48≤c∧c≤57))):zE j c=false:=Bool.eq_false_iff.2 fun e=>h (zdT.1 e)
theorem zbw (c:Int) (w:World) (_:0≤c) (_:c≤255):
  Calls Tryz.prog 82 #[.int .u8 c] w fun e o=>e= .returned (.bool (zD c))∧o=w:=by
 by_cases q:48≤c
 ·by_cases n:c≤57
  ·have h:Hid (zD c=true):=zck.2 ⟨q,n⟩
   have j:decide (48≤c)=true:=decide_eq_true (by omega)
   have z:decide (c≤57)=true:=decide_eq_true (by omega)
   go_enter Tryz.func82,Tryz.ntmps82
   go_wp2
   go_ret
   exact⟨zl h.out.symm,rfl⟩
  ·have h:Hid (zD c=false):=zcv (by omega)
   have j:decide (48≤c)=true:=decide_eq_true (by omega)
   have z:decide (c≤57)=false:=decide_eq_false (by omega)
   go_enter Tryz.func82,Tryz.ntmps82
   go_wp2
   go_ret
   exact⟨zl h.out.symm,rfl⟩
 ·have h:Hid (zD c=false):=zcv (by omega)
  have j:decide (48≤c)=false:=decide_eq_false (by omega)
  go_enter Tryz.func82,Tryz.ntmps82
  go_wp2
  go_ret
  exact⟨zl h.out.symm,rfl⟩
theorem zdU (c:Int) (j:Bool) (w:World) (o:0≤c) (q:c≤255):
  Calls Tryz.prog 83 #[.int .u8 c,.bool j] w fun e n=>e= .returned (.bool (zE j c))∧n=w:=by
 have I:(97≤c∧c≤122)∨(65≤c∧c≤90)∨(48≤c∧c≤57)∨c=95∨c=36∨(c<65∧¬(48≤c∧c≤57)∧c≠36)∨(91≤c∧c≤96∧c≠95)∨123≤c:=by omega
 rcases I with r|r|r|r|r|r|r|r
 ·have h:Hid (zE j c=true):=zdT.2 (by omega)
  have z:decide (97≤c)=true:=decide_eq_true (by omega)
  have K:decide (c≤122)=true:=decide_eq_true (by omega)
  clear r
  go_enter Tryz.func83,Tryz.ntmps83
  go_wp2_with (first|(go_at_call 82;refine (zbw _ _ o q).mono ?_;rintro e n ⟨rfl,rfl⟩))
  go_ret
  exact⟨zl h.out.symm,rfl⟩
 ·have h:Hid (zE j c=true):=zdT.2 (by omega)
  have z:decide (97≤c)=false:=decide_eq_false (by omega)
  have A:decide (65≤c)=true:=decide_eq_true (by omega)
  have J:decide (c≤90)=true:=decide_eq_true (by omega)
  clear r
  go_enter Tryz.func83,Tryz.ntmps83
  go_wp2_with (first|(go_at_call 82;refine (zbw _ _ o q).mono ?_;rintro e n ⟨rfl,rfl⟩))
  go_ret
  exact⟨zl h.out.symm,rfl⟩
 ·have h:Hid (zE j c=true):=zdT.2 (by omega)
  have z:decide (97≤c)=false:=decide_eq_false (by omega)
  have A:decide (65≤c)=false:=decide_eq_false (by omega)
  have D:zD c=true:=zck.2 r
  clear r
  go_enter Tryz.func83,Tryz.ntmps83
  go_wp2_with (first|(go_at_call 82;refine (zbw _ _ o q).mono ?_;rintro e n ⟨rfl,rfl⟩))
  go_ret
  exact⟨zl h.out.symm,rfl⟩
 ·have h:Hid (zE j c=true):=zdT.2 (by omega)
  have z:decide (97≤c)=false:=decide_eq_false (by omega)
  have A:decide (65≤c)=true:=decide_eq_true (by omega)
  have J:decide (c≤90)=false:=decide_eq_false (by omega)
  have D:zD c=false:=zcv (by omega)
  have E:(c==95)=true:=beq_iff_eq.2 (by omega)
  clear r
  go_enter Tryz.func83,Tryz.ntmps83
  go_wp2_with (first|(go_at_call 82;refine (zbw _ _ o q).mono ?_;rintro e n ⟨rfl,rfl⟩))
  go_ret
  exact⟨zl h.out.symm,rfl⟩
 ·cases j
  ·have h:Hid (zE false c=false):=zds (by simp;omega)
   have z:decide (97≤c)=false:=decide_eq_false (by omega)
   have A:decide (65≤c)=false:=decide_eq_false (by omega)
   have D:zD c=false:=zcv (by omega)
   have E:(c==95)=false:=beq_eq_false_iff_ne.2 (by omega)
   have H:(c==36)=true:=beq_iff_eq.2 (by omega)
   clear r
   go_enter Tryz.func83,Tryz.ntmps83
   go_wp2_with (first|(go_at_call 82;refine (zbw _ _ o q).mono ?_;rintro e n ⟨rfl,rfl⟩))
   go_ret
   exact⟨zl h.out.symm,rfl⟩
  ·have h:Hid (zE true c=true):=zdT.2 (by simp;omega)
   have z:decide (97≤c)=false:=decide_eq_false (by omega)
   have A:decide (65≤c)=false:=decide_eq_false (by omega)
   have D:zD c=false:=zcv (by omega)
   have E:(c==95)=false:=beq_eq_false_iff_ne.2 (by omega)
   have H:(c==36)=true:=beq_iff_eq.2 (by omega)
   clear r
   go_enter Tryz.func83,Tryz.ntmps83
   go_wp2_with (first|(go_at_call 82;refine (zbw _ _ o q).mono ?_;rintro e n ⟨rfl,rfl⟩))
   go_ret
   exact⟨zl h.out.symm,rfl⟩
 ·cases j
  ·have h:Hid (zE false c=false):=zds (by simp;omega)
   have z:decide (97≤c)=false:=decide_eq_false (by omega)
   have A:decide (65≤c)=false:=decide_eq_false (by omega)
   have D:zD c=false:=zcv (by omega)
   have E:(c==95)=false:=beq_eq_false_iff_ne.2 (by omega)
   have H:(c==36)=false:=beq_eq_false_iff_ne.2 (by omega)
   clear r
   go_enter Tryz.func83,Tryz.ntmps83
   go_wp2_with (first|(go_at_call 82;refine (zbw _ _ o q).mono ?_;rintro e n ⟨rfl,rfl⟩))
   go_ret
   exact⟨zl h.out.symm,rfl⟩
  ·have h:Hid (zE true c=false):=zds (by simp;omega)
   have z:decide (97≤c)=false:=decide_eq_false (by omega)
   have A:decide (65≤c)=false:=decide_eq_false (by omega)
   have D:zD c=false:=zcv (by omega)
   have E:(c==95)=false:=beq_eq_false_iff_ne.2 (by omega)
   have H:(c==36)=false:=beq_eq_false_iff_ne.2 (by omega)
   clear r
   go_enter Tryz.func83,Tryz.ntmps83
   go_wp2_with (first|(go_at_call 82;refine (zbw _ _ o q).mono ?_;rintro e n ⟨rfl,rfl⟩))
   go_ret
   exact⟨zl h.out.symm,rfl⟩
 ·cases j
  ·have h:Hid (zE false c=false):=zds (by simp;omega)
   have z:decide (97≤c)=false:=decide_eq_false (by omega)
   have A:decide (65≤c)=true:=decide_eq_true (by omega)
   have J:decide (c≤90)=false:=decide_eq_false (by omega)
   have D:zD c=false:=zcv (by omega)
   have E:(c==95)=false:=beq_eq_false_iff_ne.2 (by omega)
   have H:(c==36)=false:=beq_eq_false_iff_ne.2 (by omega)
   clear r
   go_enter Tryz.func83,Tryz.ntmps83
   go_wp2_with (first|(go_at_call 82;refine (zbw _ _ o q).mono ?_;rintro e n ⟨rfl,rfl⟩))
   go_ret
   exact⟨zl h.out.symm,rfl⟩
  ·have h:Hid (zE true c=false):=zds (by simp;omega)
   have z:decide (97≤c)=false:=decide_eq_false (by omega)
   have A:decide (65≤c)=true:=decide_eq_true (by omega)
   have J:decide (c≤90)=false:=decide_eq_false (by omega)
   have D:zD c=false:=zcv (by omega)
   have E:(c==95)=false:=beq_eq_false_iff_ne.2 (by omega)
   have H:(c==36)=false:=beq_eq_false_iff_ne.2 (by omega)
   clear r
   go_enter Tryz.func83,Tryz.ntmps83
   go_wp2_with (first|(go_at_call 82;refine (zbw _ _ o q).mono ?_;rintro e n ⟨rfl,rfl⟩))
   go_ret
   exact⟨zl h.out.symm,rfl⟩
 ·cases j
  ·have h:Hid (zE false c=false):=zds (by simp;omega)
   have z:decide (97≤c)=true:=decide_eq_true (by omega)
   have K:decide (c≤122)=false:=decide_eq_false (by omega)
   have A:decide (65≤c)=true:=decide_eq_true (by omega)
   have J:decide (c≤90)=false:=decide_eq_false (by omega)
   have D:zD c=false:=zcv (by omega)
   have E:(c==95)=false:=beq_eq_false_iff_ne.2 (by omega)
   have H:(c==36)=false:=beq_eq_false_iff_ne.2 (by omega)
   clear r
   go_enter Tryz.func83,Tryz.ntmps83
   go_wp2_with (first|(go_at_call 82;refine (zbw _ _ o q).mono ?_;rintro e n ⟨rfl,rfl⟩))
   go_ret
   exact⟨zl h.out.symm,rfl⟩
  ·have h:Hid (zE true c=false):=zds (by simp;omega)
   have z:decide (97≤c)=true:=decide_eq_true (by omega)
   have K:decide (c≤122)=false:=decide_eq_false (by omega)
   have A:decide (65≤c)=true:=decide_eq_true (by omega)
   have J:decide (c≤90)=false:=decide_eq_false (by omega)
   have D:zD c=false:=zcv (by omega)
   have E:(c==95)=false:=beq_eq_false_iff_ne.2 (by omega)
   have H:(c==36)=false:=beq_eq_false_iff_ne.2 (by omega)
   clear r
   go_enter Tryz.func83,Tryz.ntmps83
   go_wp2_with (first|(go_at_call 82;refine (zbw _ _ o q).mono ?_;rintro e n ⟨rfl,rfl⟩))
   go_ret
   exact⟨zl h.out.symm,rfl⟩
def zdt (c:Int):Bool:=decide (zbn c)
theorem zfs (c:Int) (w:World) (I:0≤c) (K:c≤255):
  Calls Tryz.prog 143 #[.int .u8 c] w fun e q=>e= .returned (.bool (zdt c))∧q=w:=by
 have n:c<32∨127≤c∨c=34∨c=92∨zbn c:=by unfold zbn;omega
 rcases n with r|r|r|r|r
 ·have j:Hid (zdt c=false):=decide_eq_false (fun h=>by unfold zbn at h;omega)
  have o:decide (32≤c)=false:=decide_eq_false (by omega)
  clear r
  go_enter Tryz.func143,Tryz.ntmps143
  go_wp2
  go_ret
  exact⟨zl j.out.symm,rfl⟩
 ·have j:Hid (zdt c=false):=decide_eq_false (fun h=>by unfold zbn at h;omega)
  have o:decide (32≤c)=true:=decide_eq_true (by omega)
  have z:decide (c≤126)=false:=decide_eq_false (by omega)
  clear r
  go_enter Tryz.func143,Tryz.ntmps143
  go_wp2
  go_ret
  exact⟨zl j.out.symm,rfl⟩
 ·have j:Hid (zdt c=false):=decide_eq_false (fun h=>by unfold zbn at h;omega)
  subst r
  go_enter Tryz.func143,Tryz.ntmps143
  go_wp2
  go_ret
  exact⟨zl j.out.symm,rfl⟩
 ·have j:Hid (zdt c=false):=decide_eq_false (fun h=>by unfold zbn at h;omega)
  subst r
  go_enter Tryz.func143,Tryz.ntmps143
  go_wp2
  go_ret
  exact⟨zl j.out.symm,rfl⟩
 ·have j:Hid (zdt c=true):=decide_eq_true r
  obtain⟨A,E,D,H⟩:=r
  have o:decide (32≤c)=true:=decide_eq_true (by omega)
  have z:decide (c≤126)=true:=decide_eq_true (by omega)
  have L:(c !=34)=true:=bne_iff_ne.2 (by omega)
  have J:(c !=92)=true:=bne_iff_ne.2 (by omega)
  clear A E D H
  go_enter Tryz.func143,Tryz.ntmps143
  go_wp2
  go_ret
  exact⟨zl j.out.symm,rfl⟩
abbrev zdu (c:Int):Prop:=48≤c∧c≤57
def dv (s:ByteArray) (p:Nat):Nat→Int
 |0=>0
 |k+1=>dv s p k*10+(bt s (p+k)-48)
theorem znJ (s:ByteArray) (p k:Nat) (h: ∀j,j<k→zdu (bt s (p+j))):0≤dv s p k∧dv s p k<10^k:=by
 induction k with
 |zero=>simp[dv]
 |succ k n=>
  obtain⟨a,b⟩:=n (fun j o=>h j (by omega))
  have c:=h k (by omega)
  unfold zdu at c
  rw[dv,zdc]
  omega
theorem znK (k:Nat) (h:k≤9):(10:Int)^k≤1000000000:=by
 have:=zei h
 have e:(10:Int)^9=1000000000:=by decide
 omega
def pfx (s:ByteArray):Nat:=if bt s 0=45 then 1 else 0
theorem znL (s:ByteArray):pfx s≤s.size:=by
 unfold pfx
 split
 ·rename_i h
  rcases Nat.eq_zero_or_pos s.size with e|e
  ·rw[bt_end s (by omega)] at h
   omega
  ·omega
 ·omega
abbrev RdP (s:ByteArray):Prop:=
 1≤s.size-pfx s∧s.size-pfx s≤9∧(∀j,j<s.size-pfx s→zdu (bt s (pfx s+j)))∧(bt s (pfx s)≠48∨(pfx s=0∧s.size=1))
def zdV (s:ByteArray):Bool:=decide (RdP s)
def rdV (s:ByteArray):Int:=if zdV s then (if pfx s=1 then-dv s 1 (s.size-1) else dv s 0 s.size) else 0
theorem ze2 {s:ByteArray} (h:RdP s):zdV s=true:=decide_eq_true h
theorem zcP {s:ByteArray} (h: ¬RdP s):zdV s=false:=decide_eq_false h
theorem zdv {s:ByteArray} (h: ¬RdP s):rdV s=0:=by rw[rdV,zcP h];rfl
def spV (s:ByteArray):Nat→Int
 |0=>0
 |k+1=>if zdu (bt s k) then spV s k*10+(bt s k-48) else spV s k
def spK (s:ByteArray):Nat→Int
 |0=>0
 |k+1=>if zdu (bt s k) then spK s k+1 else spK s k
def spN (s:ByteArray):Int:=if bt s 0=45 then-spV s s.size else spV s s.size
end Go.Proofs.YticdggnnpjachaaGreat
