/-
  What impl.isDigit,impl.isNameByte and impl.isStrByte answer: the walks.
  Plain facts on which texts are decimal numbers of at most nine digits,and of which. No program is spoken of.
-/
import Derived.Test.YtgcbmogmniahjaaGreatProg
import Derived.WalkLawsBesides
import Derived.Test.YtgcbmogmniahjaaGreatCAcAidToTreeMath
namespace Go.Proofs.YtgcbmogmniahjaaGreat
set_option maxHeartbeats 1600000
open Go.RowKit Go.PlainAid
theorem zdb {c:Int} (h: ¬(48≤c∧c≤57)):zK c=false:=decide_eq_false h
theorem zeX {c:Int} {h:Bool}:zM h c=true↔(97≤c∧c≤122)∨(65≤c∧c≤90)∨c=95∨(h=true∧c=36)∨(48≤c∧c≤57):=by rw[zM,Bool.or_eq_true,zdZ,zcN];simp only[or_assoc]
theorem ze0 {c:Int} {q:Bool} (h: ¬((97≤c∧c≤122)∨(65≤c∧c≤90)∨c=95∨(q=true∧c=36)∨(48≤c∧c≤57))):zM q c=false:=Bool.eq_false_iff.2 fun e=>h (zeX.1 e)
theorem zbS (c:Int) (w:World) (_:0≤c) (_:c≤255):
  Calls Tryz.prog 188 #[.int .u8 c] w fun e w'=>e= .returned (.bool (zK c))∧w'=w:=by
 by_cases A:48≤c
 ·by_cases H:c≤57
  ·have h:Hid (zK c=true):=zcN.2 ⟨A,H⟩
   have q:decide (48≤c)=true:=decide_eq_true (by omega)
   have z:decide (c≤57)=true:=decide_eq_true (by omega)
   go_enter Tryz.func188,Tryz.ntmps188
   go_wp2
   go_ret
   exact⟨zi h.out.symm,rfl⟩
  ·have h:Hid (zK c=false):=zdb (by omega)
   have q:decide (48≤c)=true:=decide_eq_true (by omega)
   have z:decide (c≤57)=false:=decide_eq_false (by omega)
   go_enter Tryz.func188,Tryz.ntmps188
   go_wp2
   go_ret
   exact⟨zi h.out.symm,rfl⟩
 ·have h:Hid (zK c=false):=zdb (by omega)
  have q:decide (48≤c)=false:=decide_eq_false (by omega)
  go_enter Tryz.func188,Tryz.ntmps188
  go_wp2
  go_ret
  exact⟨zi h.out.symm,rfl⟩
theorem zeY (c:Int) (q:Bool) (w:World) (A:0≤c) (z:c≤255):
  Calls Tryz.prog 189 #[.int .u8 c,.bool q] w fun e w'=>e= .returned (.bool (zM q c))∧w'=w:=by
 have N:(97≤c∧c≤122)∨(65≤c∧c≤90)∨(48≤c∧c≤57)∨c=95∨c=36∨(c<65∧¬(48≤c∧c≤57)∧c≠36)∨(91≤c∧c≤96∧c≠95)∨123≤c:=by omega
 rcases N with r|r|r|r|r|r|r|r
 ·have h:Hid (zM q c=true):=zeX.2 (by omega)
  have H:decide (97≤c)=true:=decide_eq_true (by omega)
  have O:decide (c≤122)=true:=decide_eq_true (by omega)
  clear r
  go_enter Tryz.func189,Tryz.ntmps189
  go_wp2_with (first|(go_at_call 188;refine (zbS _ _ A z).mono ?_;rintro e w' ⟨rfl,rfl⟩))
  go_ret
  exact⟨zi h.out.symm,rfl⟩
 ·have h:Hid (zM q c=true):=zeX.2 (by omega)
  have H:decide (97≤c)=false:=decide_eq_false (by omega)
  have I:decide (65≤c)=true:=decide_eq_true (by omega)
  have M:decide (c≤90)=true:=decide_eq_true (by omega)
  clear r
  go_enter Tryz.func189,Tryz.ntmps189
  go_wp2_with (first|(go_at_call 188;refine (zbS _ _ A z).mono ?_;rintro e w' ⟨rfl,rfl⟩))
  go_ret
  exact⟨zi h.out.symm,rfl⟩
 ·have h:Hid (zM q c=true):=zeX.2 (by omega)
  have H:decide (97≤c)=false:=decide_eq_false (by omega)
  have I:decide (65≤c)=false:=decide_eq_false (by omega)
  have J:zK c=true:=zcN.2 r
  clear r
  go_enter Tryz.func189,Tryz.ntmps189
  go_wp2_with (first|(go_at_call 188;refine (zbS _ _ A z).mono ?_;rintro e w' ⟨rfl,rfl⟩))
  go_ret
  exact⟨zi h.out.symm,rfl⟩
 ·have h:Hid (zM q c=true):=zeX.2 (by omega)
  have H:decide (97≤c)=false:=decide_eq_false (by omega)
  have I:decide (65≤c)=true:=decide_eq_true (by omega)
  have M:decide (c≤90)=false:=decide_eq_false (by omega)
  have J:zK c=false:=zdb (by omega)
  have K:(c==95)=true:=beq_iff_eq.2 (by omega)
  clear r
  go_enter Tryz.func189,Tryz.ntmps189
  go_wp2_with (first|(go_at_call 188;refine (zbS _ _ A z).mono ?_;rintro e w' ⟨rfl,rfl⟩))
  go_ret
  exact⟨zi h.out.symm,rfl⟩
 ·cases q
  ·have h:Hid (zM false c=false):=ze0 (by simp;omega)
   have H:decide (97≤c)=false:=decide_eq_false (by omega)
   have I:decide (65≤c)=false:=decide_eq_false (by omega)
   have J:zK c=false:=zdb (by omega)
   have K:(c==95)=false:=beq_eq_false_iff_ne.2 (by omega)
   have L:(c==36)=true:=beq_iff_eq.2 (by omega)
   clear r
   go_enter Tryz.func189,Tryz.ntmps189
   go_wp2_with (first|(go_at_call 188;refine (zbS _ _ A z).mono ?_;rintro e w' ⟨rfl,rfl⟩))
   go_ret
   exact⟨zi h.out.symm,rfl⟩
  ·have h:Hid (zM true c=true):=zeX.2 (by simp;omega)
   have H:decide (97≤c)=false:=decide_eq_false (by omega)
   have I:decide (65≤c)=false:=decide_eq_false (by omega)
   have J:zK c=false:=zdb (by omega)
   have K:(c==95)=false:=beq_eq_false_iff_ne.2 (by omega)
   have L:(c==36)=true:=beq_iff_eq.2 (by omega)
   clear r
   go_enter Tryz.func189,Tryz.ntmps189
   go_wp2_with (first|(go_at_call 188;refine (zbS _ _ A z).mono ?_;rintro e w' ⟨rfl,rfl⟩))
   go_ret
   exact⟨zi h.out.symm,rfl⟩
 ·cases q
  ·have h:Hid (zM false c=false):=ze0 (by simp;omega)
   have H:decide (97≤c)=false:=decide_eq_false (by omega)
   have I:decide (65≤c)=false:=decide_eq_false (by omega)
   have J:zK c=false:=zdb (by omega)
   have K:(c==95)=false:=beq_eq_false_iff_ne.2 (by omega)
   have L:(c==36)=false:=beq_eq_false_iff_ne.2 (by omega)
   clear r
   go_enter Tryz.func189,Tryz.ntmps189
   go_wp2_with (first|(go_at_call 188;refine (zbS _ _ A z).mono ?_;rintro e w' ⟨rfl,rfl⟩))
   go_ret
   exact⟨zi h.out.symm,rfl⟩
  ·have h:Hid (zM true c=false):=ze0 (by simp;omega)
   have H:decide (97≤c)=false:=decide_eq_false (by omega)
   have I:decide (65≤c)=false:=decide_eq_false (by omega)
   have J:zK c=false:=zdb (by omega)
   have K:(c==95)=false:=beq_eq_false_iff_ne.2 (by omega)
   have L:(c==36)=false:=beq_eq_false_iff_ne.2 (by omega)
   clear r
   go_enter Tryz.func189,Tryz.ntmps189
   go_wp2_with (first|(go_at_call 188;refine (zbS _ _ A z).mono ?_;rintro e w' ⟨rfl,rfl⟩))
   go_ret
   exact⟨zi h.out.symm,rfl⟩
 ·cases q
  ·have h:Hid (zM false c=false):=ze0 (by simp;omega)
   have H:decide (97≤c)=false:=decide_eq_false (by omega)
   have I:decide (65≤c)=true:=decide_eq_true (by omega)
   have M:decide (c≤90)=false:=decide_eq_false (by omega)
   have J:zK c=false:=zdb (by omega)
   have K:(c==95)=false:=beq_eq_false_iff_ne.2 (by omega)
   have L:(c==36)=false:=beq_eq_false_iff_ne.2 (by omega)
   clear r
   go_enter Tryz.func189,Tryz.ntmps189
   go_wp2_with (first|(go_at_call 188;refine (zbS _ _ A z).mono ?_;rintro e w' ⟨rfl,rfl⟩))
   go_ret
   exact⟨zi h.out.symm,rfl⟩
  ·have h:Hid (zM true c=false):=ze0 (by simp;omega)
   have H:decide (97≤c)=false:=decide_eq_false (by omega)
   have I:decide (65≤c)=true:=decide_eq_true (by omega)
   have M:decide (c≤90)=false:=decide_eq_false (by omega)
   have J:zK c=false:=zdb (by omega)
   have K:(c==95)=false:=beq_eq_false_iff_ne.2 (by omega)
   have L:(c==36)=false:=beq_eq_false_iff_ne.2 (by omega)
   clear r
   go_enter Tryz.func189,Tryz.ntmps189
   go_wp2_with (first|(go_at_call 188;refine (zbS _ _ A z).mono ?_;rintro e w' ⟨rfl,rfl⟩))
   go_ret
   exact⟨zi h.out.symm,rfl⟩
 ·cases q
  ·have h:Hid (zM false c=false):=ze0 (by simp;omega)
   have H:decide (97≤c)=true:=decide_eq_true (by omega)
   have O:decide (c≤122)=false:=decide_eq_false (by omega)
   have I:decide (65≤c)=true:=decide_eq_true (by omega)
   have M:decide (c≤90)=false:=decide_eq_false (by omega)
   have J:zK c=false:=zdb (by omega)
   have K:(c==95)=false:=beq_eq_false_iff_ne.2 (by omega)
   have L:(c==36)=false:=beq_eq_false_iff_ne.2 (by omega)
   clear r
   go_enter Tryz.func189,Tryz.ntmps189
   go_wp2_with (first|(go_at_call 188;refine (zbS _ _ A z).mono ?_;rintro e w' ⟨rfl,rfl⟩))
   go_ret
   exact⟨zi h.out.symm,rfl⟩
  ·have h:Hid (zM true c=false):=ze0 (by simp;omega)
   have H:decide (97≤c)=true:=decide_eq_true (by omega)
   have O:decide (c≤122)=false:=decide_eq_false (by omega)
   have I:decide (65≤c)=true:=decide_eq_true (by omega)
   have M:decide (c≤90)=false:=decide_eq_false (by omega)
   have J:zK c=false:=zdb (by omega)
   have K:(c==95)=false:=beq_eq_false_iff_ne.2 (by omega)
   have L:(c==36)=false:=beq_eq_false_iff_ne.2 (by omega)
   clear r
   go_enter Tryz.func189,Tryz.ntmps189
   go_wp2_with (first|(go_at_call 188;refine (zbS _ _ A z).mono ?_;rintro e w' ⟨rfl,rfl⟩))
   go_ret
   exact⟨zi h.out.symm,rfl⟩
def ze1 (c:Int):Bool:=decide (zbD c)
theorem zgV (c:Int) (w:World) (O:0≤c) (N:c≤255):
  Calls Tryz.prog 210 #[.int .u8 c] w fun e w'=>e= .returned (.bool (ze1 c))∧w'=w:=by
 have z:c<32∨127≤c∨c=34∨c=92∨zbD c:=by unfold zbD;omega
 rcases z with r|r|r|r|r
 ·have q:Hid (ze1 c=false):=decide_eq_false (fun h=>by unfold zbD at h;omega)
  have A:decide (32≤c)=false:=decide_eq_false (by omega)
  clear r
  go_enter Tryz.func210,Tryz.ntmps210
  go_wp2
  go_ret
  exact⟨zi q.out.symm,rfl⟩
 ·have q:Hid (ze1 c=false):=decide_eq_false (fun h=>by unfold zbD at h;omega)
  have A:decide (32≤c)=true:=decide_eq_true (by omega)
  have J:decide (c≤126)=false:=decide_eq_false (by omega)
  clear r
  go_enter Tryz.func210,Tryz.ntmps210
  go_wp2
  go_ret
  exact⟨zi q.out.symm,rfl⟩
 ·have q:Hid (ze1 c=false):=decide_eq_false (fun h=>by unfold zbD at h;omega)
  subst r
  go_enter Tryz.func210,Tryz.ntmps210
  go_wp2
  go_ret
  exact⟨zi q.out.symm,rfl⟩
 ·have q:Hid (ze1 c=false):=decide_eq_false (fun h=>by unfold zbD at h;omega)
  subst r
  go_enter Tryz.func210,Tryz.ntmps210
  go_wp2
  go_ret
  exact⟨zi q.out.symm,rfl⟩
 ·have q:Hid (ze1 c=true):=decide_eq_true r
  obtain⟨L,H,K,I⟩:=r
  have A:decide (32≤c)=true:=decide_eq_true (by omega)
  have J:decide (c≤126)=true:=decide_eq_true (by omega)
  have M:(c !=34)=true:=bne_iff_ne.2 (by omega)
  have U:(c !=92)=true:=bne_iff_ne.2 (by omega)
  clear L H K I
  go_enter Tryz.func210,Tryz.ntmps210
  go_wp2
  go_ret
  exact⟨zi q.out.symm,rfl⟩
abbrev ze2 (c:Int):Prop:=48≤c∧c≤57
def dv (s:ByteArray) (p:Nat):Nat→Int
 |0=>0
 |k+1=>dv s p k*10+(bt s (p+k)-48)
theorem zuw (s:ByteArray) (p k:Nat) (h: ∀j,j<k→ze2 (bt s (p+j))):0≤dv s p k∧dv s p k<10^k:=by
 induction k with
 |zero=>simp[dv]
 |succ k q=>
  obtain⟨a,b⟩:=q (fun j w=>h j (by omega))
  have c:=h k (by omega)
  unfold ze2 at c
  rw[dv,zeb]
  omega
theorem zux (k:Nat) (h:k≤9):(10:Int)^k≤1000000000:=by
 have:=zfs h
 have e:(10:Int)^9=1000000000:=by decide
 omega
def pfx (s:ByteArray):Nat:=if bt s 0=45 then 1 else 0
theorem zuy (s:ByteArray):pfx s≤s.size:=by
 unfold pfx
 split
 ·rename_i h
  rcases Nat.eq_zero_or_pos s.size with e|e
  ·rw[bt_end s (by omega)] at h
   omega
  ·omega
 ·omega
abbrev RdP (s:ByteArray):Prop:=
 1≤s.size-pfx s∧s.size-pfx s≤9∧(∀j,j<s.size-pfx s→ze2 (bt s (pfx s+j)))∧(bt s (pfx s)≠48∨(pfx s=0∧s.size=1))
def zeZ (s:ByteArray):Bool:=decide (RdP s)
def rdV (s:ByteArray):Int:=if zeZ s then (if pfx s=1 then-dv s 1 (s.size-1) else dv s 0 s.size) else 0
theorem zfQ {s:ByteArray} (h:RdP s):zeZ s=true:=decide_eq_true h
theorem zdC {s:ByteArray} (h: ¬RdP s):zeZ s=false:=decide_eq_false h
theorem ze3 {s:ByteArray} (h: ¬RdP s):rdV s=0:=by rw[rdV,zdC h];rfl
def spV (s:ByteArray):Nat→Int
 |0=>0
 |k+1=>if ze2 (bt s k) then spV s k*10+(bt s k-48) else spV s k
def spK (s:ByteArray):Nat→Int
 |0=>0
 |k+1=>if ze2 (bt s k) then spK s k+1 else spK s k
def spN (s:ByteArray):Int:=if bt s 0=45 then-spV s s.size else spV s s.size
end Go.Proofs.YtgcbmogmniahjaaGreat
