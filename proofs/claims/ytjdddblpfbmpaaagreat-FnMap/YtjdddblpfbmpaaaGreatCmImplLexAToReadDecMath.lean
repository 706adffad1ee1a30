/-
  What impl.isDigit,impl.isNameByte and impl.isStrByte answer: the walks.
  Plain facts on which texts are decimal numbers of at most nine digits,and of which. No program is spoken of.
-/
import Derived.Test.YtjdddblpfbmpaaaGreatProg
import Derived.WalkLawsBesides
import Derived.Test.YtjdddblpfbmpaaaGreatCmAidToTreeMath
namespace Go.Proofs.YtjdddblpfbmpaaaGreat
set_option maxHeartbeats 1600000
open Go.RowKit Go.PlainAid
theorem zdd {c:Int} (h: ¬(48≤c∧c≤57)):zK c=false:=decide_eq_false h
theorem zeS {c:Int} {j:Bool}:zL j c=true↔(97≤c∧c≤122)∨(65≤c∧c≤90)∨c=95∨(j=true∧c=36)∨(48≤c∧c≤57):=by rw[zL,Bool.or_eq_true,zdR,zc7];simp only[or_assoc]
theorem zep {c:Int} {j:Bool} (h: ¬((97≤c∧c≤122)∨(65≤c∧c≤90)∨c=95∨(j=true∧c=36)∨(48≤c∧c≤57))):zL j c=false:=Bool.eq_false_iff.2 fun e=>h (zeS.1 e)
theorem zbP (c:Int) (w:World) (_:0≤c) (_:c≤255):
  Calls Tryz.prog 158 #[.int .u8 c] w fun e w'=>e= .returned (.bool (zK c))∧w'=w:=by
 by_cases A:48≤c
 ·by_cases H:c≤57
  ·have j:Hid (zK c=true):=zc7.2 ⟨A,H⟩
   have q:decide (48≤c)=true:=decide_eq_true (by omega)
   have z:decide (c≤57)=true:=decide_eq_true (by omega)
   go_enter Tryz.func158,Tryz.ntmps158
   go_wp2
   go_ret
   exact⟨zh j.out.symm,rfl⟩
  ·have j:Hid (zK c=false):=zdd (by omega)
   have q:decide (48≤c)=true:=decide_eq_true (by omega)
   have z:decide (c≤57)=false:=decide_eq_false (by omega)
   go_enter Tryz.func158,Tryz.ntmps158
   go_wp2
   go_ret
   exact⟨zh j.out.symm,rfl⟩
 ·have j:Hid (zK c=false):=zdd (by omega)
  have q:decide (48≤c)=false:=decide_eq_false (by omega)
  go_enter Tryz.func158,Tryz.ntmps158
  go_wp2
  go_ret
  exact⟨zh j.out.symm,rfl⟩
theorem zeT (c:Int) (q:Bool) (w:World) (A:0≤c) (z:c≤255):
  Calls Tryz.prog 159 #[.int .u8 c,.bool q] w fun e w'=>e= .returned (.bool (zL q c))∧w'=w:=by
 have O:(97≤c∧c≤122)∨(65≤c∧c≤90)∨(48≤c∧c≤57)∨c=95∨c=36∨(c<65∧¬(48≤c∧c≤57)∧c≠36)∨(91≤c∧c≤96∧c≠95)∨123≤c:=by omega
 rcases O with r|r|r|r|r|r|r|r
 ·have j:Hid (zL q c=true):=zeS.2 (by omega)
  have H:decide (97≤c)=true:=decide_eq_true (by omega)
  have U:decide (c≤122)=true:=decide_eq_true (by omega)
  clear r
  go_enter Tryz.func159,Tryz.ntmps159
  go_wp2_with (first|(go_at_call 158;refine (zbP _ _ A z).mono ?_;rintro e w' ⟨rfl,rfl⟩))
  go_ret
  exact⟨zh j.out.symm,rfl⟩
 ·have j:Hid (zL q c=true):=zeS.2 (by omega)
  have H:decide (97≤c)=false:=decide_eq_false (by omega)
  have I:decide (65≤c)=true:=decide_eq_true (by omega)
  have N:decide (c≤90)=true:=decide_eq_true (by omega)
  clear r
  go_enter Tryz.func159,Tryz.ntmps159
  go_wp2_with (first|(go_at_call 158;refine (zbP _ _ A z).mono ?_;rintro e w' ⟨rfl,rfl⟩))
  go_ret
  exact⟨zh j.out.symm,rfl⟩
 ·have j:Hid (zL q c=true):=zeS.2 (by omega)
  have H:decide (97≤c)=false:=decide_eq_false (by omega)
  have I:decide (65≤c)=false:=decide_eq_false (by omega)
  have J:zK c=true:=zc7.2 r
  clear r
  go_enter Tryz.func159,Tryz.ntmps159
  go_wp2_with (first|(go_at_call 158;refine (zbP _ _ A z).mono ?_;rintro e w' ⟨rfl,rfl⟩))
  go_ret
  exact⟨zh j.out.symm,rfl⟩
 ·have j:Hid (zL q c=true):=zeS.2 (by omega)
  have H:decide (97≤c)=false:=decide_eq_false (by omega)
  have I:decide (65≤c)=true:=decide_eq_true (by omega)
  have N:decide (c≤90)=false:=decide_eq_false (by omega)
  have J:zK c=false:=zdd (by omega)
  have L:(c==95)=true:=beq_iff_eq.2 (by omega)
  clear r
  go_enter Tryz.func159,Tryz.ntmps159
  go_wp2_with (first|(go_at_call 158;refine (zbP _ _ A z).mono ?_;rintro e w' ⟨rfl,rfl⟩))
  go_ret
  exact⟨zh j.out.symm,rfl⟩
 ·cases q
  ·have j:Hid (zL false c=false):=zep (by simp;omega)
   have H:decide (97≤c)=false:=decide_eq_false (by omega)
   have I:decide (65≤c)=false:=decide_eq_false (by omega)
   have J:zK c=false:=zdd (by omega)
   have L:(c==95)=false:=beq_eq_false_iff_ne.2 (by omega)
   have M:(c==36)=true:=beq_iff_eq.2 (by omega)
   clear r
   go_enter Tryz.func159,Tryz.ntmps159
   go_wp2_with (first|(go_at_call 158;refine (zbP _ _ A z).mono ?_;rintro e w' ⟨rfl,rfl⟩))
   go_ret
   exact⟨zh j.out.symm,rfl⟩
  ·have j:Hid (zL true c=true):=zeS.2 (by simp;omega)
   have H:decide (97≤c)=false:=decide_eq_false (by omega)
   have I:decide (65≤c)=false:=decide_eq_false (by omega)
   have J:zK c=false:=zdd (by omega)
   have L:(c==95)=false:=beq_eq_false_iff_ne.2 (by omega)
   have M:(c==36)=true:=beq_iff_eq.2 (by omega)
   clear r
   go_enter Tryz.func159,Tryz.ntmps159
   go_wp2_with (first|(go_at_call 158;refine (zbP _ _ A z).mono ?_;rintro e w' ⟨rfl,rfl⟩))
   go_ret
   exact⟨zh j.out.symm,rfl⟩
 ·cases q
  ·have j:Hid (zL false c=false):=zep (by simp;omega)
   have H:decide (97≤c)=false:=decide_eq_false (by omega)
   have I:decide (65≤c)=false:=decide_eq_false (by omega)
   have J:zK c=false:=zdd (by omega)
   have L:(c==95)=false:=beq_eq_false_iff_ne.2 (by omega)
   have M:(c==36)=false:=beq_eq_false_iff_ne.2 (by omega)
   clear r
   go_enter Tryz.func159,Tryz.ntmps159
   go_wp2_with (first|(go_at_call 158;refine (zbP _ _ A z).mono ?_;rintro e w' ⟨rfl,rfl⟩))
   go_ret
   exact⟨zh j.out.symm,rfl⟩
  ·have j:Hid (zL true c=false):=zep (by simp;omega)
   have H:decide (97≤c)=false:=decide_eq_false (by omega)
   have I:decide (65≤c)=false:=decide_eq_false (by omega)
   have J:zK c=false:=zdd (by omega)
   have L:(c==95)=false:=beq_eq_false_iff_ne.2 (by omega)
   have M:(c==36)=false:=beq_eq_false_iff_ne.2 (by omega)
   clear r
   go_enter Tryz.func159,Tryz.ntmps159
   go_wp2_with (first|(go_at_call 158;refine (zbP _ _ A z).mono ?_;rintro e w' ⟨rfl,rfl⟩))
   go_ret
   exact⟨zh j.out.symm,rfl⟩
 ·cases q
  ·have j:Hid (zL false c=false):=zep (by simp;omega)
   have H:decide (97≤c)=false:=decide_eq_false (by omega)
   have I:decide (65≤c)=true:=decide_eq_true (by omega)
   have N:decide (c≤90)=false:=decide_eq_false (by omega)
   have J:zK c=false:=zdd (by omega)
   have L:(c==95)=false:=beq_eq_false_iff_ne.2 (by omega)
   have M:(c==36)=false:=beq_eq_false_iff_ne.2 (by omega)
   clear r
   go_enter Tryz.func159,Tryz.ntmps159
   go_wp2_with (first|(go_at_call 158;refine (zbP _ _ A z).mono ?_;rintro e w' ⟨rfl,rfl⟩))
   go_ret
   exact⟨zh j.out.symm,rfl⟩
  ·have j:Hid (zL true c=false):=zep (by simp;omega)
   have H:decide (97≤c)=false:=decide_eq_false (by omega)
   have I:decide (65≤c)=true:=decide_eq_true (by omega)
   have N:decide (c≤90)=false:=decide_eq_false (by omega)
   have J:zK c=false:=zdd (by omega)
   have L:(c==95)=false:=beq_eq_false_iff_ne.2 (by omega)
   have M:(c==36)=false:=beq_eq_false_iff_ne.2 (by omega)
   clear r
   go_enter Tryz.func159,Tryz.ntmps159
   go_wp2_with (first|(go_at_call 158;refine (zbP _ _ A z).mono ?_;rintro e w' ⟨rfl,rfl⟩))
   go_ret
   exact⟨zh j.out.symm,rfl⟩
 ·cases q
  ·have j:Hid (zL false c=false):=zep (by simp;omega)
   have H:decide (97≤c)=true:=decide_eq_true (by omega)
   have U:decide (c≤122)=false:=decide_eq_false (by omega)
   have I:decide (65≤c)=true:=decide_eq_true (by omega)
   have N:decide (c≤90)=false:=decide_eq_false (by omega)
   have J:zK c=false:=zdd (by omega)
   have L:(c==95)=false:=beq_eq_false_iff_ne.2 (by omega)
   have M:(c==36)=false:=beq_eq_false_iff_ne.2 (by omega)
   clear r
   go_enter Tryz.func159,Tryz.ntmps159
   go_wp2_with (first|(go_at_call 158;refine (zbP _ _ A z).mono ?_;rintro e w' ⟨rfl,rfl⟩))
   go_ret
   exact⟨zh j.out.symm,rfl⟩
  ·have j:Hid (zL true c=false):=zep (by simp;omega)
   have H:decide (97≤c)=true:=decide_eq_true (by omega)
   have U:decide (c≤122)=false:=decide_eq_false (by omega)
   have I:decide (65≤c)=true:=decide_eq_true (by omega)
   have N:decide (c≤90)=false:=decide_eq_false (by omega)
   have J:zK c=false:=zdd (by omega)
   have L:(c==95)=false:=beq_eq_false_iff_ne.2 (by omega)
   have M:(c==36)=false:=beq_eq_false_iff_ne.2 (by omega)
   clear r
   go_enter Tryz.func159,Tryz.ntmps159
   go_wp2_with (first|(go_at_call 158;refine (zbP _ _ A z).mono ?_;rintro e w' ⟨rfl,rfl⟩))
   go_ret
   exact⟨zh j.out.symm,rfl⟩
def zeq (c:Int):Bool:=decide (zbD c)
theorem zgV (c:Int) (w:World) (O:0≤c) (N:c≤255):
  Calls Tryz.prog 185 #[.int .u8 c] w fun e w'=>e= .returned (.bool (zeq c))∧w'=w:=by
 have q:c<32∨127≤c∨c=34∨c=92∨zbD c:=by unfold zbD;omega
 rcases q with r|r|r|r|r
 ·have j:Hid (zeq c=false):=decide_eq_false (fun h=>by unfold zbD at h;omega)
  have z:decide (32≤c)=false:=decide_eq_false (by omega)
  clear r
  go_enter Tryz.func185,Tryz.ntmps185
  go_wp2
  go_ret
  exact⟨zh j.out.symm,rfl⟩
 ·have j:Hid (zeq c=false):=decide_eq_false (fun h=>by unfold zbD at h;omega)
  have z:decide (32≤c)=true:=decide_eq_true (by omega)
  have I:decide (c≤126)=false:=decide_eq_false (by omega)
  clear r
  go_enter Tryz.func185,Tryz.ntmps185
  go_wp2
  go_ret
  exact⟨zh j.out.symm,rfl⟩
 ·have j:Hid (zeq c=false):=decide_eq_false (fun h=>by unfold zbD at h;omega)
  subst r
  go_enter Tryz.func185,Tryz.ntmps185
  go_wp2
  go_ret
  exact⟨zh j.out.symm,rfl⟩
 ·have j:Hid (zeq c=false):=decide_eq_false (fun h=>by unfold zbD at h;omega)
  subst r
  go_enter Tryz.func185,Tryz.ntmps185
  go_wp2
  go_ret
  exact⟨zh j.out.symm,rfl⟩
 ·have j:Hid (zeq c=true):=decide_eq_true r
  obtain⟨L,A,J,H⟩:=r
  have z:decide (32≤c)=true:=decide_eq_true (by omega)
  have I:decide (c≤126)=true:=decide_eq_true (by omega)
  have M:(c !=34)=true:=bne_iff_ne.2 (by omega)
  have U:(c !=92)=true:=bne_iff_ne.2 (by omega)
  clear L A J H
  go_enter Tryz.func185,Tryz.ntmps185
  go_wp2
  go_ret
  exact⟨zh j.out.symm,rfl⟩
abbrev zer (c:Int):Prop:=48≤c∧c≤57
def dv (s:ByteArray) (p:Nat):Nat→Int
 |0=>0
 |k+1=>dv s p k*10+(bt s (p+k)-48)
theorem ztK (s:ByteArray) (p k:Nat) (h: ∀j,j<k→zer (bt s (p+j))):0≤dv s p k∧dv s p k<10^k:=by
 induction k with
 |zero=>simp[dv]
 |succ k q=>
  obtain⟨a,b⟩:=q (fun j z=>h j (by omega))
  have c:=h k (by omega)
  unfold zer at c
  rw[dv,zdS]
  omega
theorem ztL (k:Nat) (h:k≤9):(10:Int)^k≤1000000000:=by
 have:=zff h
 have e:(10:Int)^9=1000000000:=by decide
 omega
def pfx (s:ByteArray):Nat:=if bt s 0=45 then 1 else 0
theorem ztM (s:ByteArray):pfx s≤s.size:=by
 unfold pfx
 split
 ·rename_i h
  rcases Nat.eq_zero_or_pos s.size with e|e
  ·rw[bt_end s (by omega)] at h
   omega
  ·omega
 ·omega
abbrev RdP (s:ByteArray):Prop:=
 1≤s.size-pfx s∧s.size-pfx s≤9∧(∀j,j<s.size-pfx s→zer (bt s (pfx s+j)))∧(bt s (pfx s)≠48∨(pfx s=0∧s.size=1))
def zeU (s:ByteArray):Bool:=decide (RdP s)
def rdV (s:ByteArray):Int:=if zeU s then (if pfx s=1 then-dv s 1 (s.size-1) else dv s 0 s.size) else 0
theorem zfQ {s:ByteArray} (h:RdP s):zeU s=true:=decide_eq_true h
theorem zdD {s:ByteArray} (h: ¬RdP s):zeU s=false:=decide_eq_false h
theorem zes {s:ByteArray} (h: ¬RdP s):rdV s=0:=by rw[rdV,zdD h];rfl
def spV (s:ByteArray):Nat→Int
 |0=>0
 |k+1=>if zer (bt s k) then spV s k*10+(bt s k-48) else spV s k
def spK (s:ByteArray):Nat→Int
 |0=>0
 |k+1=>if zer (bt s k) then spK s k+1 else spK s k
def spN (s:ByteArray):Int:=if bt s 0=45 then-spV s s.size else spV s s.size
end Go.Proofs.YtjdddblpfbmpaaaGreat
