/-
  What impl.isDigit,impl.isNameByte and impl.isStrByte answer: the walks.
  Plain facts on which texts are decimal numbers of at most nine digits,and of which. No program is spoken of.
-/
import Derived.Test.YtgcbmogmniahjaaGreatProg
import Derived.WalkLawsBesides
import Derived.Test.YtgcbmogmniahjaaGreatCAsAidToTreeMath
namespace Go.Proofs.YtgcbmogmniahjaaGreat
set_option maxHeartbeats 1600000
open Go.RowKit Go.PlainAid
theorem zdg {c:Int} (h: ¬(48≤c∧c≤57)):zL c=false:=decide_eq_false h
theorem zfh {c:Int} {h:Bool}:zN h c=true↔(97≤c∧c≤122)∨(65≤c∧c≤90)∨c=95∨(h=true∧c=36)∨(48≤c∧c≤57):=by rw[zN,Bool.or_eq_true,zej,zcS];simp only[or_assoc]
theorem zeA {c:Int} {q:Bool} (h: ¬((97≤c∧c≤122)∨(65≤c∧c≤90)∨c=95∨(q=true∧c=36)∨(48≤c∧c≤57))):zN q c=false:=Bool.eq_false_iff.2 fun e=>h (zfh.1 e)
theorem zbY (c:Int) (w:World) (_:0≤c) (_:c≤255):
  Calls Tryz.prog 188 #[.int .u8 c] w fun e A=>e= .returned (.bool (zL c))∧A=w:=by
 by_cases D:48≤c
 ·by_cases E:c≤57
  ·have h:Hid (zL c=true):=zcS.2 ⟨D,E⟩
   have q:decide (48≤c)=true:=decide_eq_true (by omega)
   have z:decide (c≤57)=true:=decide_eq_true (by omega)
   go_enter Tryz.func188,Tryz.ntmps188
   go_wp2
   go_ret
   exact⟨zi h.out.symm,rfl⟩
  ·have h:Hid (zL c=false):=zdg (by omega)
   have q:decide (48≤c)=true:=decide_eq_true (by omega)
   have z:decide (c≤57)=false:=decide_eq_false (by omega)
   go_enter Tryz.func188,Tryz.ntmps188
   go_wp2
   go_ret
   exact⟨zi h.out.symm,rfl⟩
 ·have h:Hid (zL c=false):=zdg (by omega)
  have q:decide (48≤c)=false:=decide_eq_false (by omega)
  go_enter Tryz.func188,Tryz.ntmps188
  go_wp2
  go_ret
  exact⟨zi h.out.symm,rfl⟩
theorem zfi (c:Int) (q:Bool) (w:World) (D:0≤c) (A:c≤255):
  Calls Tryz.prog 189 #[.int .u8 c,.bool q] w fun e z=>e= .returned (.bool (zN q c))∧z=w:=by
 have M:(97≤c∧c≤122)∨(65≤c∧c≤90)∨(48≤c∧c≤57)∨c=95∨c=36∨(c<65∧¬(48≤c∧c≤57)∧c≠36)∨(91≤c∧c≤96∧c≠95)∨123≤c:=by omega
 rcases M with r|r|r|r|r|r|r|r
 ·have h:Hid (zN q c=true):=zfh.2 (by omega)
  have E:decide (97≤c)=true:=decide_eq_true (by omega)
  have N:decide (c≤122)=true:=decide_eq_true (by omega)
  clear r
  go_enter Tryz.func189,Tryz.ntmps189
  go_wp2_with (first|(go_at_call 188;refine (zbY _ _ D A).mono ?_;rintro e z ⟨rfl,rfl⟩))
  go_ret
  exact⟨zi h.out.symm,rfl⟩
 ·have h:Hid (zN q c=true):=zfh.2 (by omega)
  have E:decide (97≤c)=false:=decide_eq_false (by omega)
  have H:decide (65≤c)=true:=decide_eq_true (by omega)
  have L:decide (c≤90)=true:=decide_eq_true (by omega)
  clear r
  go_enter Tryz.func189,Tryz.ntmps189
  go_wp2_with (first|(go_at_call 188;refine (zbY _ _ D A).mono ?_;rintro e z ⟨rfl,rfl⟩))
  go_ret
  exact⟨zi h.out.symm,rfl⟩
 ·have h:Hid (zN q c=true):=zfh.2 (by omega)
  have E:decide (97≤c)=false:=decide_eq_false (by omega)
  have H:decide (65≤c)=false:=decide_eq_false (by omega)
  have I:zL c=true:=zcS.2 r
  clear r
  go_enter Tryz.func189,Tryz.ntmps189
  go_wp2_with (first|(go_at_call 188;refine (zbY _ _ D A).mono ?_;rintro e z ⟨rfl,rfl⟩))
  go_ret
  exact⟨zi h.out.symm,rfl⟩
 ·have h:Hid (zN q c=true):=zfh.2 (by omega)
  have E:decide (97≤c)=false:=decide_eq_false (by omega)
  have H:decide (65≤c)=true:=decide_eq_true (by omega)
  have L:decide (c≤90)=false:=decide_eq_false (by omega)
  have I:zL c=false:=zdg (by omega)
  have J:(c==95)=true:=beq_iff_eq.2 (by omega)
  clear r
  go_enter Tryz.func189,Tryz.ntmps189
  go_wp2_with (first|(go_at_call 188;refine (zbY _ _ D A).mono ?_;rintro e z ⟨rfl,rfl⟩))
  go_ret
  exact⟨zi h.out.symm,rfl⟩
 ·cases q
  ·have h:Hid (zN false c=false):=zeA (by simp;omega)
   have E:decide (97≤c)=false:=decide_eq_false (by omega)
   have H:decide (65≤c)=false:=decide_eq_false (by omega)
   have I:zL c=false:=zdg (by omega)
   have J:(c==95)=false:=beq_eq_false_iff_ne.2 (by omega)
   have K:(c==36)=true:=beq_iff_eq.2 (by omega)
   clear r
   go_enter Tryz.func189,Tryz.ntmps189
   go_wp2_with (first|(go_at_call 188;refine (zbY _ _ D A).mono ?_;rintro e z ⟨rfl,rfl⟩))
   go_ret
   exact⟨zi h.out.symm,rfl⟩
  ·have h:Hid (zN true c=true):=zfh.2 (by simp;omega)
   have E:decide (97≤c)=false:=decide_eq_false (by omega)
   have H:decide (65≤c)=false:=decide_eq_false (by omega)
   have I:zL c=false:=zdg (by omega)
   have J:(c==95)=false:=beq_eq_false_iff_ne.2 (by omega)
   have K:(c==36)=true:=beq_iff_eq.2 (by omega)
   clear r
   go_enter Tryz.func189,Tryz.ntmps189
   go_wp2_with (first|(go_at_call 188;refine (zbY _ _ D A).mono ?_;rintro e z ⟨rfl,rfl⟩))
   go_ret
   exact⟨zi h.out.symm,rfl⟩
 ·cases q
  ·have h:Hid (zN false c=false):=zeA (by simp;omega)
   have E:decide (97≤c)=false:=decide_eq_false (by omega)
   have H:decide (65≤c)=false:=decide_eq_false (by omega)
   have I:zL c=false:=zdg (by omega)
   have J:(c==95)=false:=beq_eq_false_iff_ne.2 (by omega)
   have K:(c==36)=false:=beq_eq_false_iff_ne.2 (by omega)
   clear r
   go_enter Tryz.func189,Tryz.ntmps189
   go_wp2_with (first|(go_at_call 188;refine (zbY _ _ D A).mono ?_;rintro e z ⟨rfl,rfl⟩))
   go_ret
   exact⟨zi h.out.symm,rfl⟩
  ·have h:Hid (zN true c=false):=zeA (by simp;omega)
   have E:decide (97≤c)=false:=decide_eq_false (by omega)
   have H:decide (65≤c)=false:=decide_eq_false (by omega)
   have I:zL c=false:=zdg (by omega)
   have J:(c==95)=false:=beq_eq_false_iff_ne.2 (by omega)
   have K:(c==36)=false:=beq_eq_false_iff_ne.2 (by omega)
   clear r
   go_enter Tryz.func189,Tryz.ntmps189
   go_wp2_with (first|(go_at_call 188;refine (zbY _ _ D A).mono ?_;rintro e z ⟨rfl,rfl⟩))
   go_ret
   exact⟨zi h.out.symm,rfl⟩
 ·cases q
  ·have h:Hid (zN false c=false):=zeA (by simp;omega)
   have E:decide (97≤c)=false:=decide_eq_false (by omega)
   have H:decide (65≤c)=true:=decide_eq_true (by omega)
   have L:decide (c≤90)=false:=decide_eq_false (by omega)
   have I:zL c=false:=zdg (by omega)
   have J:(c==95)=false:=beq_eq_false_iff_ne.2 (by omega)
   have K:(c==36)=false:=beq_eq_false_iff_ne.2 (by omega)
   clear r
   go_enter Tryz.func189,Tryz.ntmps189
   go_wp2_with (first|(go_at_call 188;refine (zbY _ _ D A).mono ?_;rintro e z ⟨rfl,rfl⟩))
   go_ret
   exact⟨zi h.out.symm,rfl⟩
  ·have h:Hid (zN true c=false):=zeA (by simp;omega)
   have E:decide (97≤c)=false:=decide_eq_false (by omega)
   have H:decide (65≤c)=true:=decide_eq_true (by omega)
   have L:decide (c≤90)=false:=decide_eq_false (by omega)
   have I:zL c=false:=zdg (by omega)
   have J:(c==95)=false:=beq_eq_false_iff_ne.2 (by omega)
   have K:(c==36)=false:=beq_eq_false_iff_ne.2 (by omega)
   clear r
   go_enter Tryz.func189,Tryz.ntmps189
   go_wp2_with (first|(go_at_call 188;refine (zbY _ _ D A).mono ?_;rintro e z ⟨rfl,rfl⟩))
   go_ret
   exact⟨zi h.out.symm,rfl⟩
 ·cases q
  ·have h:Hid (zN false c=false):=zeA (by simp;omega)
   have E:decide (97≤c)=true:=decide_eq_true (by omega)
   have N:decide (c≤122)=false:=decide_eq_false (by omega)
   have H:decide (65≤c)=true:=decide_eq_true (by omega)
   have L:decide (c≤90)=false:=decide_eq_false (by omega)
   have I:zL c=false:=zdg (by omega)
   have J:(c==95)=false:=beq_eq_false_iff_ne.2 (by omega)
   have K:(c==36)=false:=beq_eq_false_iff_ne.2 (by omega)
   clear r
   go_enter Tryz.func189,Tryz.ntmps189
   go_wp2_with (first|(go_at_call 188;refine (zbY _ _ D A).mono ?_;rintro e z ⟨rfl,rfl⟩))
   go_ret
   exact⟨zi h.out.symm,rfl⟩
  ·have h:Hid (zN true c=false):=zeA (by simp;omega)
   have E:decide (97≤c)=true:=decide_eq_true (by omega)
   have N:decide (c≤122)=false:=decide_eq_false (by omega)
   have H:decide (65≤c)=true:=decide_eq_true (by omega)
   have L:decide (c≤90)=false:=decide_eq_false (by omega)
   have I:zL c=false:=zdg (by omega)
   have J:(c==95)=false:=beq_eq_false_iff_ne.2 (by omega)
   have K:(c==36)=false:=beq_eq_false_iff_ne.2 (by omega)
   clear r
   go_enter Tryz.func189,Tryz.ntmps189
   go_wp2_with (first|(go_at_call 188;refine (zbY _ _ D A).mono ?_;rintro e z ⟨rfl,rfl⟩))
   go_ret
   exact⟨zi h.out.symm,rfl⟩
def zeB (c:Int):Bool:=decide (zbH c)
theorem zhf (c:Int) (w:World) (N:0≤c) (M:c≤255):
  Calls Tryz.prog 210 #[.int .u8 c] w fun e J=>e= .returned (.bool (zeB c))∧J=w:=by
 have z:c<32∨127≤c∨c=34∨c=92∨zbH c:=by unfold zbH;omega
 rcases z with r|r|r|r|r
 ·have q:Hid (zeB c=false):=decide_eq_false (fun h=>by unfold zbH at h;omega)
  have A:decide (32≤c)=false:=decide_eq_false (by omega)
  clear r
  go_enter Tryz.func210,Tryz.ntmps210
  go_wp2
  go_ret
  exact⟨zi q.out.symm,rfl⟩
 ·have q:Hid (zeB c=false):=decide_eq_false (fun h=>by unfold zbH at h;omega)
  have A:decide (32≤c)=true:=decide_eq_true (by omega)
  have H:decide (c≤126)=false:=decide_eq_false (by omega)
  clear r
  go_enter Tryz.func210,Tryz.ntmps210
  go_wp2
  go_ret
  exact⟨zi q.out.symm,rfl⟩
 ·have q:Hid (zeB c=false):=decide_eq_false (fun h=>by unfold zbH at h;omega)
  subst r
  go_enter Tryz.func210,Tryz.ntmps210
  go_wp2
  go_ret
  exact⟨zi q.out.symm,rfl⟩
 ·have q:Hid (zeB c=false):=decide_eq_false (fun h=>by unfold zbH at h;omega)
  subst r
  go_enter Tryz.func210,Tryz.ntmps210
  go_wp2
  go_ret
  exact⟨zi q.out.symm,rfl⟩
 ·have q:Hid (zeB c=true):=decide_eq_true r
  obtain⟨K,D,I,E⟩:=r
  have A:decide (32≤c)=true:=decide_eq_true (by omega)
  have H:decide (c≤126)=true:=decide_eq_true (by omega)
  have L:(c !=34)=true:=bne_iff_ne.2 (by omega)
  have O:(c !=92)=true:=bne_iff_ne.2 (by omega)
  clear K D I E
  go_enter Tryz.func210,Tryz.ntmps210
  go_wp2
  go_ret
  exact⟨zi q.out.symm,rfl⟩
abbrev zeC (c:Int):Prop:=48≤c∧c≤57
def dv (s:ByteArray) (p:Nat):Nat→Int
 |0=>0
 |k+1=>dv s p k*10+(bt s (p+k)-48)
theorem zuI (s:ByteArray) (p k:Nat) (h: ∀j,j<k→zeC (bt s (p+j))):0≤dv s p k∧dv s p k<10^k:=by
 induction k with
 |zero=>simp[dv]
 |succ k q=>
  obtain⟨a,b⟩:=q (fun j w=>h j (by omega))
  have c:=h k (by omega)
  unfold zeC at c
  rw[dv,zel]
  omega
theorem zuJ (k:Nat) (h:k≤9):(10:Int)^k≤1000000000:=by
 have:=zf2 h
 have e:(10:Int)^9=1000000000:=by decide
 omega
def pfx (s:ByteArray):Nat:=if bt s 0=45 then 1 else 0
theorem zuK (s:ByteArray):pfx s≤s.size:=by
 unfold pfx
 split
 ·rename_i h
  rcases Nat.eq_zero_or_pos s.size with e|e
  ·rw[bt_end s (by omega)] at h
   omega
  ·omega
 ·omega
abbrev RdP (s:ByteArray):Prop:=
 1≤s.size-pfx s∧s.size-pfx s≤9∧(∀j,j<s.size-pfx s→zeC (bt s (pfx s+j)))∧(bt s (pfx s)≠48∨(pfx s=0∧s.size=1))
def zfj (s:ByteArray):Bool:=decide (RdP s)
def rdV (s:ByteArray):Int:=if zfj s then (if pfx s=1 then-dv s 1 (s.size-1) else dv s 0 s.size) else 0
theorem zfZ {s:ByteArray} (h:RdP s):zfj s=true:=decide_eq_true h
theorem zdK {s:ByteArray} (h: ¬RdP s):zfj s=false:=decide_eq_false h
theorem zeD {s:ByteArray} (h: ¬RdP s):rdV s=0:=by rw[rdV,zdK h];rfl
def spV (s:ByteArray):Nat→Int
 |0=>0
 |k+1=>if zeC (bt s k) then spV s k*10+(bt s k-48) else spV s k
def spK (s:ByteArray):Nat→Int
 |0=>0
 |k+1=>if zeC (bt s k) then spK s k+1 else spK s k
def spN (s:ByteArray):Int:=if bt s 0=45 then-spV s s.size else spV s s.size
end Go.Proofs.YtgcbmogmniahjaaGreat
