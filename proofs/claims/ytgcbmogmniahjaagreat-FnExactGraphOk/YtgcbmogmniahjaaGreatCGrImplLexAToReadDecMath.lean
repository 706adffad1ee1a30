/-
  What impl.isDigit,impl.isNameByte and impl.isStrByte answer: the walks.
  Plain facts on which texts are decimal numbers of at most nine digits,and of which. No program is spoken of.
-/
import Derived.Test.YtgcbmogmniahjaaGreatProg
import Derived.WalkLawsBesides
import Derived.Test.YtgcbmogmniahjaaGreatCGrAidToTreeMath
namespace Go.Proofs.YtgcbmogmniahjaaGreat
set_option maxHeartbeats 1600000
open Go.RowKit Go.PlainAid
theorem zcW {c:Int} (h: ¬(48≤c∧c≤57)):zJ c=false:=decide_eq_false h
theorem zeP {c:Int} {h:Bool}:zL h c=true↔(97≤c∧c≤122)∨(65≤c∧c≤90)∨c=95∨(h=true∧c=36)∨(48≤c∧c≤57):=by rw[zL,Bool.or_eq_true,zdQ,zcI];simp only[or_assoc]
theorem zes {c:Int} {q:Bool} (h: ¬((97≤c∧c≤122)∨(65≤c∧c≤90)∨c=95∨(q=true∧c=36)∨(48≤c∧c≤57))):zL q c=false:=Bool.eq_false_iff.2 fun e=>h (zeP.1 e)
theorem zbP (c:Int) (w:World) (_:0≤c) (_:c≤255):
  Calls Tryz.prog 188 #[.int .u8 c] w fun e A=>e= .returned (.bool (zJ c))∧A=w:=by
 by_cases D:48≤c
 ·by_cases E:c≤57
  ·have h:Hid (zJ c=true):=zcI.2 ⟨D,E⟩
   have q:decide (48≤c)=true:=decide_eq_true (by omega)
   have z:decide (c≤57)=true:=decide_eq_true (by omega)
   go_enter Tryz.func188,Tryz.ntmps188
   go_wp2
   go_ret
   exact⟨zi h.out.symm,rfl⟩
  ·have h:Hid (zJ c=false):=zcW (by omega)
   have q:decide (48≤c)=true:=decide_eq_true (by omega)
   have z:decide (c≤57)=false:=decide_eq_false (by omega)
   go_enter Tryz.func188,Tryz.ntmps188
   go_wp2
   go_ret
   exact⟨zi h.out.symm,rfl⟩
 ·have h:Hid (zJ c=false):=zcW (by omega)
  have q:decide (48≤c)=false:=decide_eq_false (by omega)
  go_enter Tryz.func188,Tryz.ntmps188
  go_wp2
  go_ret
  exact⟨zi h.out.symm,rfl⟩
theorem zeQ (c:Int) (q:Bool) (w:World) (D:0≤c) (A:c≤255):
  Calls Tryz.prog 189 #[.int .u8 c,.bool q] w fun e z=>e= .returned (.bool (zL q c))∧z=w:=by
 have M:(97≤c∧c≤122)∨(65≤c∧c≤90)∨(48≤c∧c≤57)∨c=95∨c=36∨(c<65∧¬(48≤c∧c≤57)∧c≠36)∨(91≤c∧c≤96∧c≠95)∨123≤c:=by omega
 rcases M with r|r|r|r|r|r|r|r
 ·have h:Hid (zL q c=true):=zeP.2 (by omega)
  have E:decide (97≤c)=true:=decide_eq_true (by omega)
  have N:decide (c≤122)=true:=decide_eq_true (by omega)
  clear r
  go_enter Tryz.func189,Tryz.ntmps189
  go_wp2_with (first|(go_at_call 188;refine (zbP _ _ D A).mono ?_;rintro e z ⟨rfl,rfl⟩))
  go_ret
  exact⟨zi h.out.symm,rfl⟩
 ·have h:Hid (zL q c=true):=zeP.2 (by omega)
  have E:decide (97≤c)=false:=decide_eq_false (by omega)
  have H:decide (65≤c)=true:=decide_eq_true (by omega)
  have L:decide (c≤90)=true:=decide_eq_true (by omega)
  clear r
  go_enter Tryz.func189,Tryz.ntmps189
  go_wp2_with (first|(go_at_call 188;refine (zbP _ _ D A).mono ?_;rintro e z ⟨rfl,rfl⟩))
  go_ret
  exact⟨zi h.out.symm,rfl⟩
 ·have h:Hid (zL q c=true):=zeP.2 (by omega)
  have E:decide (97≤c)=false:=decide_eq_false (by omega)
  have H:decide (65≤c)=false:=decide_eq_false (by omega)
  have I:zJ c=true:=zcI.2 r
  clear r
  go_enter Tryz.func189,Tryz.ntmps189
  go_wp2_with (first|(go_at_call 188;refine (zbP _ _ D A).mono ?_;rintro e z ⟨rfl,rfl⟩))
  go_ret
  exact⟨zi h.out.symm,rfl⟩
 ·have h:Hid (zL q c=true):=zeP.2 (by omega)
  have E:decide (97≤c)=false:=decide_eq_false (by omega)
  have H:decide (65≤c)=true:=decide_eq_true (by omega)
  have L:decide (c≤90)=false:=decide_eq_false (by omega)
  have I:zJ c=false:=zcW (by omega)
  have J:(c==95)=true:=beq_iff_eq.2 (by omega)
  clear r
  go_enter Tryz.func189,Tryz.ntmps189
  go_wp2_with (first|(go_at_call 188;refine (zbP _ _ D A).mono ?_;rintro e z ⟨rfl,rfl⟩))
  go_ret
  exact⟨zi h.out.symm,rfl⟩
 ·cases q
  ·have h:Hid (zL false c=false):=zes (by simp;omega)
   have E:decide (97≤c)=false:=decide_eq_false (by omega)
   have H:decide (65≤c)=false:=decide_eq_false (by omega)
   have I:zJ c=false:=zcW (by omega)
   have J:(c==95)=false:=beq_eq_false_iff_ne.2 (by omega)
   have K:(c==36)=true:=beq_iff_eq.2 (by omega)
   clear r
   go_enter Tryz.func189,Tryz.ntmps189
   go_wp2_with (first|(go_at_call 188;refine (zbP _ _ D A).mono ?_;rintro e z ⟨rfl,rfl⟩))
   go_ret
   exact⟨zi h.out.symm,rfl⟩
  ·have h:Hid (zL true c=true):=zeP.2 (by simp;omega)
   have E:decide (97≤c)=false:=decide_eq_false (by omega)
   have H:decide (65≤c)=false:=decide_eq_false (by omega)
   have I:zJ c=false:=zcW (by omega)
   have J:(c==95)=false:=beq_eq_false_iff_ne.2 (by omega)
   have K:(c==36)=true:=beq_iff_eq.2 (by omega)
   clear r
   go_enter Tryz.func189,Tryz.ntmps189
   go_wp2_with (first|(go_at_call 188;refine (zbP _ _ D A).mono ?_;rintro e z ⟨rfl,rfl⟩))
   go_ret
   exact⟨zi h.out.symm,rfl⟩
 ·cases q
  ·have h:Hid (zL false c=false):=zes (by simp;omega)
   have E:decide (97≤c)=false:=decide_eq_false (by omega)
   have H:decide (65≤c)=false:=decide_eq_false (by omega)
   have I:zJ c=false:=zcW (by omega)
   have J:(c==95)=false:=beq_eq_false_iff_ne.2 (by omega)
   have K:(c==36)=false:=beq_eq_false_iff_ne.2 (by omega)
   clear r
   go_enter Tryz.func189,Tryz.ntmps189
   go_wp2_with (first|(go_at_call 188;refine (zbP _ _ D A).mono ?_;rintro e z ⟨rfl,rfl⟩))
   go_ret
   exact⟨zi h.out.symm,rfl⟩
  ·have h:Hid (zL true c=false):=zes (by simp;omega)
   have E:decide (97≤c)=false:=decide_eq_false (by omega)
   have H:decide (65≤c)=false:=decide_eq_false (by omega)
   have I:zJ c=false:=zcW (by omega)
   have J:(c==95)=false:=beq_eq_false_iff_ne.2 (by omega)
   have K:(c==36)=false:=beq_eq_false_iff_ne.2 (by omega)
   clear r
   go_enter Tryz.func189,Tryz.ntmps189
   go_wp2_with (first|(go_at_call 188;refine (zbP _ _ D A).mono ?_;rintro e z ⟨rfl,rfl⟩))
   go_ret
   exact⟨zi h.out.symm,rfl⟩
 ·cases q
  ·have h:Hid (zL false c=false):=zes (by simp;omega)
   have E:decide (97≤c)=false:=decide_eq_false (by omega)
   have H:decide (65≤c)=true:=decide_eq_true (by omega)
   have L:decide (c≤90)=false:=decide_eq_false (by omega)
   have I:zJ c=false:=zcW (by omega)
   have J:(c==95)=false:=beq_eq_false_iff_ne.2 (by omega)
   have K:(c==36)=false:=beq_eq_false_iff_ne.2 (by omega)
   clear r
   go_enter Tryz.func189,Tryz.ntmps189
   go_wp2_with (first|(go_at_call 188;refine (zbP _ _ D A).mono ?_;rintro e z ⟨rfl,rfl⟩))
   go_ret
   exact⟨zi h.out.symm,rfl⟩
  ·have h:Hid (zL true c=false):=zes (by simp;omega)
   have E:decide (97≤c)=false:=decide_eq_false (by omega)
   have H:decide (65≤c)=true:=decide_eq_true (by omega)
   have L:decide (c≤90)=false:=decide_eq_false (by omega)
   have I:zJ c=false:=zcW (by omega)
   have J:(c==95)=false:=beq_eq_false_iff_ne.2 (by omega)
   have K:(c==36)=false:=beq_eq_false_iff_ne.2 (by omega)
   clear r
   go_enter Tryz.func189,Tryz.ntmps189
   go_wp2_with (first|(go_at_call 188;refine (zbP _ _ D A).mono ?_;rintro e z ⟨rfl,rfl⟩))
   go_ret
   exact⟨zi h.out.symm,rfl⟩
 ·cases q
  ·have h:Hid (zL false c=false):=zes (by simp;omega)
   have E:decide (97≤c)=true:=decide_eq_true (by omega)
   have N:decide (c≤122)=false:=decide_eq_false (by omega)
   have H:decide (65≤c)=true:=decide_eq_true (by omega)
   have L:decide (c≤90)=false:=decide_eq_false (by omega)
   have I:zJ c=false:=zcW (by omega)
   have J:(c==95)=false:=beq_eq_false_iff_ne.2 (by omega)
   have K:(c==36)=false:=beq_eq_false_iff_ne.2 (by omega)
   clear r
   go_enter Tryz.func189,Tryz.ntmps189
   go_wp2_with (first|(go_at_call 188;refine (zbP _ _ D A).mono ?_;rintro e z ⟨rfl,rfl⟩))
   go_ret
   exact⟨zi h.out.symm,rfl⟩
  ·have h:Hid (zL true c=false):=zes (by simp;omega)
   have E:decide (97≤c)=true:=decide_eq_true (by omega)
   have N:decide (c≤122)=false:=decide_eq_false (by omega)
   have H:decide (65≤c)=true:=decide_eq_true (by omega)
   have L:decide (c≤90)=false:=decide_eq_false (by omega)
   have I:zJ c=false:=zcW (by omega)
   have J:(c==95)=false:=beq_eq_false_iff_ne.2 (by omega)
   have K:(c==36)=false:=beq_eq_false_iff_ne.2 (by omega)
   clear r
   go_enter Tryz.func189,Tryz.ntmps189
   go_wp2_with (first|(go_at_call 188;refine (zbP _ _ D A).mono ?_;rintro e z ⟨rfl,rfl⟩))
   go_ret
   exact⟨zi h.out.symm,rfl⟩
def zet (c:Int):Bool:=decide (zbB c)
theorem zgL (c:Int) (w:World) (N:0≤c) (M:c≤255):
  Calls Tryz.prog 210 #[.int .u8 c] w fun e J=>e= .returned (.bool (zet c))∧J=w:=by
 have z:c<32∨127≤c∨c=34∨c=92∨zbB c:=by unfold zbB;omega
 rcases z with r|r|r|r|r
 ·have q:Hid (zet c=false):=decide_eq_false (fun h=>by unfold zbB at h;omega)
  have A:decide (32≤c)=false:=decide_eq_false (by omega)
  clear r
  go_enter Tryz.func210,Tryz.ntmps210
  go_wp2
  go_ret
  exact⟨zi q.out.symm,rfl⟩
 ·have q:Hid (zet c=false):=decide_eq_false (fun h=>by unfold zbB at h;omega)
  have A:decide (32≤c)=true:=decide_eq_true (by omega)
  have H:decide (c≤126)=false:=decide_eq_false (by omega)
  clear r
  go_enter Tryz.func210,Tryz.ntmps210
  go_wp2
  go_ret
  exact⟨zi q.out.symm,rfl⟩
 ·have q:Hid (zet c=false):=decide_eq_false (fun h=>by unfold zbB at h;omega)
  subst r
  go_enter Tryz.func210,Tryz.ntmps210
  go_wp2
  go_ret
  exact⟨zi q.out.symm,rfl⟩
 ·have q:Hid (zet c=false):=decide_eq_false (fun h=>by unfold zbB at h;omega)
  subst r
  go_enter Tryz.func210,Tryz.ntmps210
  go_wp2
  go_ret
  exact⟨zi q.out.symm,rfl⟩
 ·have q:Hid (zet c=true):=decide_eq_true r
  obtain⟨K,D,I,E⟩:=r
  have A:decide (32≤c)=true:=decide_eq_true (by omega)
  have H:decide (c≤126)=true:=decide_eq_true (by omega)
  have L:(c !=34)=true:=bne_iff_ne.2 (by omega)
  have O:(c !=92)=true:=bne_iff_ne.2 (by omega)
  clear K D I E
  go_enter Tryz.func210,Tryz.ntmps210
  go_wp2
  go_ret
  exact⟨zi q.out.symm,rfl⟩
abbrev zeu (c:Int):Prop:=48≤c∧c≤57
def dv (s:ByteArray) (p:Nat):Nat→Int
 |0=>0
 |k+1=>dv s p k*10+(bt s (p+k)-48)
theorem ztX (s:ByteArray) (p k:Nat) (h: ∀j,j<k→zeu (bt s (p+j))):0≤dv s p k∧dv s p k<10^k:=by
 induction k with
 |zero=>simp[dv]
 |succ k q=>
  obtain⟨a,b⟩:=q (fun j w=>h j (by omega))
  have c:=h k (by omega)
  unfold zeu at c
  rw[dv,zdS]
  omega
theorem ztY (k:Nat) (h:k≤9):(10:Int)^k≤1000000000:=by
 have:=zfk h
 have e:(10:Int)^9=1000000000:=by decide
 omega
def pfx (s:ByteArray):Nat:=if bt s 0=45 then 1 else 0
theorem ztZ (s:ByteArray):pfx s≤s.size:=by
 unfold pfx
 split
 ·rename_i h
  rcases Nat.eq_zero_or_pos s.size with e|e
  ·rw[bt_end s (by omega)] at h
   omega
  ·omega
 ·omega
abbrev RdP (s:ByteArray):Prop:=
 1≤s.size-pfx s∧s.size-pfx s≤9∧(∀j,j<s.size-pfx s→zeu (bt s (pfx s+j)))∧(bt s (pfx s)≠48∨(pfx s=0∧s.size=1))
def zeR (s:ByteArray):Bool:=decide (RdP s)
def rdV (s:ByteArray):Int:=if zeR s then (if pfx s=1 then-dv s 1 (s.size-1) else dv s 0 s.size) else 0
theorem zfH {s:ByteArray} (h:RdP s):zeR s=true:=decide_eq_true h
theorem zd5 {s:ByteArray} (h: ¬RdP s):zeR s=false:=decide_eq_false h
theorem zev {s:ByteArray} (h: ¬RdP s):rdV s=0:=by rw[rdV,zd5 h];rfl
def spV (s:ByteArray):Nat→Int
 |0=>0
 |k+1=>if zeu (bt s k) then spV s k*10+(bt s k-48) else spV s k
def spK (s:ByteArray):Nat→Int
 |0=>0
 |k+1=>if zeu (bt s k) then spK s k+1 else spK s k
def spN (s:ByteArray):Int:=if bt s 0=45 then-spV s s.size else spV s s.size
end Go.Proofs.YtgcbmogmniahjaaGreat
