/-
  What impl.isDigit,impl.isNameByte and impl.isStrByte answer: the walks.
  Plain facts on which texts are decimal numbers of at most nine digits,and of which. No program is spoken of.
-/
import Derived.Test.YtjdddblpfbmpaaaGreatProg
import Derived.WalkLawsBesides
import Derived.Test.YtjdddblpfbmpaaaGreatCoAidToTreeMath
namespace Go.Proofs.YtjdddblpfbmpaaaGreat
set_option maxHeartbeats 1600000
open Go.RowKit Go.PlainAid
theorem zcs {c:Int} (h: ¬(48≤c∧c≤57)):zD c=false:=decide_eq_false h
theorem zdQ {c:Int} {h:Bool}:zE h c=true↔(97≤c∧c≤122)∨(65≤c∧c≤90)∨c=95∨(h=true∧c=36)∨(48≤c∧c≤57):=by rw[zE,Bool.or_eq_true,zcY,zcg];simp only[or_assoc]
theorem zdq {c:Int} {j:Bool} (h: ¬((97≤c∧c≤122)∨(65≤c∧c≤90)∨c=95∨(j=true∧c=36)∨(48≤c∧c≤57))):zE j c=false:=Bool.eq_false_iff.2 fun e=>h (zdQ.1 e)
theorem zbt (c:Int) (w:World) (_:0≤c) (_:c≤255):
  Calls Tryz.prog 158 #[.int .u8 c] w fun e q=>e= .returned (.bool (zD c))∧q=w:=by
 by_cases z:48≤c
 ·by_cases A:c≤57
  ·have h:Hid (zD c=true):=zcg.2 ⟨z,A⟩
   have j:decide (48≤c)=true:=decide_eq_true (by omega)
   have n:decide (c≤57)=true:=decide_eq_true (by omega)
   go_enter Tryz.func158,Tryz.ntmps158
   go_wp2
   go_ret
   exact⟨zl h.out.symm,rfl⟩
  ·have h:Hid (zD c=false):=zcs (by omega)
   have j:decide (48≤c)=true:=decide_eq_true (by omega)
   have n:decide (c≤57)=false:=decide_eq_false (by omega)
   go_enter Tryz.func158,Tryz.ntmps158
   go_wp2
   go_ret
   exact⟨zl h.out.symm,rfl⟩
 ·have h:Hid (zD c=false):=zcs (by omega)
  have j:decide (48≤c)=false:=decide_eq_false (by omega)
  go_enter Tryz.func158,Tryz.ntmps158
  go_wp2
  go_ret
  exact⟨zl h.out.symm,rfl⟩
theorem zdR (c:Int) (j:Bool) (w:World) (z:0≤c) (q:c≤255):
  Calls Tryz.prog 159 #[.int .u8 c,.bool j] w fun e n=>e= .returned (.bool (zE j c))∧n=w:=by
 have K:(97≤c∧c≤122)∨(65≤c∧c≤90)∨(48≤c∧c≤57)∨c=95∨c=36∨(c<65∧¬(48≤c∧c≤57)∧c≠36)∨(91≤c∧c≤96∧c≠95)∨123≤c:=by omega
 rcases K with r|r|r|r|r|r|r|r
 ·have h:Hid (zE j c=true):=zdQ.2 (by omega)
  have A:decide (97≤c)=true:=decide_eq_true (by omega)
  have L:decide (c≤122)=true:=decide_eq_true (by omega)
  clear r
  go_enter Tryz.func159,Tryz.ntmps159
  go_wp2_with (first|(go_at_call 158;refine (zbt _ _ z q).mono ?_;rintro e n ⟨rfl,rfl⟩))
  go_ret
  exact⟨zl h.out.symm,rfl⟩
 ·have h:Hid (zE j c=true):=zdQ.2 (by omega)
  have A:decide (97≤c)=false:=decide_eq_false (by omega)
  have D:decide (65≤c)=true:=decide_eq_true (by omega)
  have J:decide (c≤90)=true:=decide_eq_true (by omega)
  clear r
  go_enter Tryz.func159,Tryz.ntmps159
  go_wp2_with (first|(go_at_call 158;refine (zbt _ _ z q).mono ?_;rintro e n ⟨rfl,rfl⟩))
  go_ret
  exact⟨zl h.out.symm,rfl⟩
 ·have h:Hid (zE j c=true):=zdQ.2 (by omega)
  have A:decide (97≤c)=false:=decide_eq_false (by omega)
  have D:decide (65≤c)=false:=decide_eq_false (by omega)
  have E:zD c=true:=zcg.2 r
  clear r
  go_enter Tryz.func159,Tryz.ntmps159
  go_wp2_with (first|(go_at_call 158;refine (zbt _ _ z q).mono ?_;rintro e n ⟨rfl,rfl⟩))
  go_ret
  exact⟨zl h.out.symm,rfl⟩
 ·have h:Hid (zE j c=true):=zdQ.2 (by omega)
  have A:decide (97≤c)=false:=decide_eq_false (by omega)
  have D:decide (65≤c)=true:=decide_eq_true (by omega)
  have J:decide (c≤90)=false:=decide_eq_false (by omega)
  have E:zD c=false:=zcs (by omega)
  have H:(c==95)=true:=beq_iff_eq.2 (by omega)
  clear r
  go_enter Tryz.func159,Tryz.ntmps159
  go_wp2_with (first|(go_at_call 158;refine (zbt _ _ z q).mono ?_;rintro e n ⟨rfl,rfl⟩))
  go_ret
  exact⟨zl h.out.symm,rfl⟩
 ·cases j
  ·have h:Hid (zE false c=false):=zdq (by simp;omega)
   have A:decide (97≤c)=false:=decide_eq_false (by omega)
   have D:decide (65≤c)=false:=decide_eq_false (by omega)
   have E:zD c=false:=zcs (by omega)
   have H:(c==95)=false:=beq_eq_false_iff_ne.2 (by omega)
   have I:(c==36)=true:=beq_iff_eq.2 (by omega)
   clear r
   go_enter Tryz.func159,Tryz.ntmps159
   go_wp2_with (first|(go_at_call 158;refine (zbt _ _ z q).mono ?_;rintro e n ⟨rfl,rfl⟩))
   go_ret
   exact⟨zl h.out.symm,rfl⟩
  ·have h:Hid (zE true c=true):=zdQ.2 (by simp;omega)
   have A:decide (97≤c)=false:=decide_eq_false (by omega)
   have D:decide (65≤c)=false:=decide_eq_false (by omega)
   have E:zD c=false:=zcs (by omega)
   have H:(c==95)=false:=beq_eq_false_iff_ne.2 (by omega)
   have I:(c==36)=true:=beq_iff_eq.2 (by omega)
   clear r
   go_enter Tryz.func159,Tryz.ntmps159
   go_wp2_with (first|(go_at_call 158;refine (zbt _ _ z q).mono ?_;rintro e n ⟨rfl,rfl⟩))
   go_ret
   exact⟨zl h.out.symm,rfl⟩
 ·cases j
  ·have h:Hid (zE false c=false):=zdq (by simp;omega)
   have A:decide (97≤c)=false:=decide_eq_false (by omega)
   have D:decide (65≤c)=false:=decide_eq_false (by omega)
   have E:zD c=false:=zcs (by omega)
   have H:(c==95)=false:=beq_eq_false_iff_ne.2 (by omega)
   have I:(c==36)=false:=beq_eq_false_iff_ne.2 (by omega)
   clear r
   go_enter Tryz.func159,Tryz.ntmps159
   go_wp2_with (first|(go_at_call 158;refine (zbt _ _ z q).mono ?_;rintro e n ⟨rfl,rfl⟩))
   go_ret
   exact⟨zl h.out.symm,rfl⟩
  ·have h:Hid (zE true c=false):=zdq (by simp;omega)
   have A:decide (97≤c)=false:=decide_eq_false (by omega)
   have D:decide (65≤c)=false:=decide_eq_false (by omega)
   have E:zD c=false:=zcs (by omega)
   have H:(c==95)=false:=beq_eq_false_iff_ne.2 (by omega)
   have I:(c==36)=false:=beq_eq_false_iff_ne.2 (by omega)
   clear r
   go_enter Tryz.func159,Tryz.ntmps159
   go_wp2_with (first|(go_at_call 158;refine (zbt _ _ z q).mono ?_;rintro e n ⟨rfl,rfl⟩))
   go_ret
   exact⟨zl h.out.symm,rfl⟩
 ·cases j
  ·have h:Hid (zE false c=false):=zdq (by simp;omega)
   have A:decide (97≤c)=false:=decide_eq_false (by omega)
   have D:decide (65≤c)=true:=decide_eq_true (by omega)
   have J:decide (c≤90)=false:=decide_eq_false (by omega)
   have E:zD c=false:=zcs (by omega)
   have H:(c==95)=false:=beq_eq_false_iff_ne.2 (by omega)
   have I:(c==36)=false:=beq_eq_false_iff_ne.2 (by omega)
   clear r
   go_enter Tryz.func159,Tryz.ntmps159
   go_wp2_with (first|(go_at_call 158;refine (zbt _ _ z q).mono ?_;rintro e n ⟨rfl,rfl⟩))
   go_ret
   exact⟨zl h.out.symm,rfl⟩
  ·have h:Hid (zE true c=false):=zdq (by simp;omega)
   have A:decide (97≤c)=false:=decide_eq_false (by omega)
   have D:decide (65≤c)=true:=decide_eq_true (by omega)
   have J:decide (c≤90)=false:=decide_eq_false (by omega)
   have E:zD c=false:=zcs (by omega)
   have H:(c==95)=false:=beq_eq_false_iff_ne.2 (by omega)
   have I:(c==36)=false:=beq_eq_false_iff_ne.2 (by omega)
   clear r
   go_enter Tryz.func159,Tryz.ntmps159
   go_wp2_with (first|(go_at_call 158;refine (zbt _ _ z q).mono ?_;rintro e n ⟨rfl,rfl⟩))
   go_ret
   exact⟨zl h.out.symm,rfl⟩
 ·cases j
  ·have h:Hid (zE false c=false):=zdq (by simp;omega)
   have A:decide (97≤c)=true:=decide_eq_true (by omega)
   have L:decide (c≤122)=false:=decide_eq_false (by omega)
   have D:decide (65≤c)=true:=decide_eq_true (by omega)
   have J:decide (c≤90)=false:=decide_eq_false (by omega)
   have E:zD c=false:=zcs (by omega)
   have H:(c==95)=false:=beq_eq_false_iff_ne.2 (by omega)
   have I:(c==36)=false:=beq_eq_false_iff_ne.2 (by omega)
   clear r
   go_enter Tryz.func159,Tryz.ntmps159
   go_wp2_with (first|(go_at_call 158;refine (zbt _ _ z q).mono ?_;rintro e n ⟨rfl,rfl⟩))
   go_ret
   exact⟨zl h.out.symm,rfl⟩
  ·have h:Hid (zE true c=false):=zdq (by simp;omega)
   have A:decide (97≤c)=true:=decide_eq_true (by omega)
   have L:decide (c≤122)=false:=decide_eq_false (by omega)
   have D:decide (65≤c)=true:=decide_eq_true (by omega)
   have J:decide (c≤90)=false:=decide_eq_false (by omega)
   have E:zD c=false:=zcs (by omega)
   have H:(c==95)=false:=beq_eq_false_iff_ne.2 (by omega)
   have I:(c==36)=false:=beq_eq_false_iff_ne.2 (by omega)
   clear r
   go_enter Tryz.func159,Tryz.ntmps159
   go_wp2_with (first|(go_at_call 158;refine (zbt _ _ z q).mono ?_;rintro e n ⟨rfl,rfl⟩))
   go_ret
   exact⟨zl h.out.symm,rfl⟩
def zdr (c:Int):Bool:=decide (zbj c)
theorem zfp (c:Int) (w:World) (L:0≤c) (K:c≤255):
  Calls Tryz.prog 185 #[.int .u8 c] w fun e H=>e= .returned (.bool (zdr c))∧H=w:=by
 have n:c<32∨127≤c∨c=34∨c=92∨zbj c:=by unfold zbj;omega
 rcases n with r|r|r|r|r
 ·have j:Hid (zdr c=false):=decide_eq_false (fun h=>by unfold zbj at h;omega)
  have q:decide (32≤c)=false:=decide_eq_false (by omega)
  clear r
  go_enter Tryz.func185,Tryz.ntmps185
  go_wp2
  go_ret
  exact⟨zl j.out.symm,rfl⟩
 ·have j:Hid (zdr c=false):=decide_eq_false (fun h=>by unfold zbj at h;omega)
  have q:decide (32≤c)=true:=decide_eq_true (by omega)
  have D:decide (c≤126)=false:=decide_eq_false (by omega)
  clear r
  go_enter Tryz.func185,Tryz.ntmps185
  go_wp2
  go_ret
  exact⟨zl j.out.symm,rfl⟩
 ·have j:Hid (zdr c=false):=decide_eq_false (fun h=>by unfold zbj at h;omega)
  subst r
  go_enter Tryz.func185,Tryz.ntmps185
  go_wp2
  go_ret
  exact⟨zl j.out.symm,rfl⟩
 ·have j:Hid (zdr c=false):=decide_eq_false (fun h=>by unfold zbj at h;omega)
  subst r
  go_enter Tryz.func185,Tryz.ntmps185
  go_wp2
  go_ret
  exact⟨zl j.out.symm,rfl⟩
 ·have j:Hid (zdr c=true):=decide_eq_true r
  obtain⟨I,z,E,A⟩:=r
  have q:decide (32≤c)=true:=decide_eq_true (by omega)
  have D:decide (c≤126)=true:=decide_eq_true (by omega)
  have J:(c !=34)=true:=bne_iff_ne.2 (by omega)
  have M:(c !=92)=true:=bne_iff_ne.2 (by omega)
  clear I z E A
  go_enter Tryz.func185,Tryz.ntmps185
  go_wp2
  go_ret
  exact⟨zl j.out.symm,rfl⟩
abbrev zds (c:Int):Prop:=48≤c∧c≤57
def dv (s:ByteArray) (p:Nat):Nat→Int
 |0=>0
 |k+1=>dv s p k*10+(bt s (p+k)-48)
theorem znT (s:ByteArray) (p k:Nat) (h: ∀j,j<k→zds (bt s (p+j))):0≤dv s p k∧dv s p k<10^k:=by
 induction k with
 |zero=>simp[dv]
 |succ k n=>
  obtain⟨a,b⟩:=n (fun j q=>h j (by omega))
  have c:=h k (by omega)
  unfold zds at c
  rw[dv,zda]
  omega
theorem znU (k:Nat) (h:k≤9):(10:Int)^k≤1000000000:=by
 have:=zef h
 have e:(10:Int)^9=1000000000:=by decide
 omega
def pfx (s:ByteArray):Nat:=if bt s 0=45 then 1 else 0
theorem znV (s:ByteArray):pfx s≤s.size:=by
 unfold pfx
 split
 ·rename_i h
  rcases Nat.eq_zero_or_pos s.size with e|e
  ·rw[bt_end s (by omega)] at h
   omega
  ·omega
 ·omega
abbrev RdP (s:ByteArray):Prop:=
 1≤s.size-pfx s∧s.size-pfx s≤9∧(∀j,j<s.size-pfx s→zds (bt s (pfx s+j)))∧(bt s (pfx s)≠48∨(pfx s=0∧s.size=1))
def zdS (s:ByteArray):Bool:=decide (RdP s)
def rdV (s:ByteArray):Int:=if zdS s then (if pfx s=1 then-dv s 1 (s.size-1) else dv s 0 s.size) else 0
theorem zez {s:ByteArray} (h:RdP s):zdS s=true:=decide_eq_true h
theorem zcO {s:ByteArray} (h: ¬RdP s):zdS s=false:=decide_eq_false h
theorem zdt {s:ByteArray} (h: ¬RdP s):rdV s=0:=by rw[rdV,zcO h];rfl
def spV (s:ByteArray):Nat→Int
 |0=>0
 |k+1=>if zds (bt s k) then spV s k*10+(bt s k-48) else spV s k
def spK (s:ByteArray):Nat→Int
 |0=>0
 |k+1=>if zds (bt s k) then spK s k+1 else spK s k
def spN (s:ByteArray):Int:=if bt s 0=45 then-spV s s.size else spV s s.size
end Go.Proofs.YtjdddblpfbmpaaaGreat
