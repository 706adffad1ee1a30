/-
  What impl.isDigit,impl.isNameByte and impl.isStrByte answer: the walks.
  Plain facts on which texts are decimal numbers of at most nine digits,and of which. No program is spoken of.
-/
import Derived.Test.YtjdddblpfbmpaaaGreatProg
import Derived.WalkLawsBesides
import Derived.Test.YtjdddblpfbmpaaaGreatClAidToTreeMath
namespace Go.Proofs.YtjdddblpfbmpaaaGreat
set_option maxHeartbeats 1600000
open Go.RowKit Go.PlainAid
theorem zcV {c:Int} (h: ¬(48≤c∧c≤57)):zH c=false:=decide_eq_false h
theorem zeI {c:Int} {h:Bool}:zK h c=true↔(97≤c∧c≤122)∨(65≤c∧c≤90)∨c=95∨(h=true∧c=36)∨(48≤c∧c≤57):=by rw[zK,Bool.or_eq_true,zdH,zcI];simp only[or_assoc]
theorem zei {c:Int} {j:Bool} (h: ¬((97≤c∧c≤122)∨(65≤c∧c≤90)∨c=95∨(j=true∧c=36)∨(48≤c∧c≤57))):zK j c=false:=Bool.eq_false_iff.2 fun e=>h (zeI.1 e)
theorem zbQ (c:Int) (w:World) (_:0≤c) (_:c≤255):
  Calls Tryz.prog 158 #[.int .u8 c] w fun e w'=>e= .returned (.bool (zH c))∧w'=w:=by
 by_cases A:48≤c
 ·by_cases H:c≤57
  ·have h:Hid (zH c=true):=zcI.2 ⟨A,H⟩
   have j:decide (48≤c)=true:=decide_eq_true (by omega)
   have z:decide (c≤57)=true:=decide_eq_true (by omega)
   go_enter Tryz.func158,Tryz.ntmps158
   go_wp2
   go_ret
   exact⟨zk h.out.symm,rfl⟩
  ·have h:Hid (zH c=false):=zcV (by omega)
   have j:decide (48≤c)=true:=decide_eq_true (by omega)
   have z:decide (c≤57)=false:=decide_eq_false (by omega)
   go_enter Tryz.func158,Tryz.ntmps158
   go_wp2
   go_ret
   exact⟨zk h.out.symm,rfl⟩
 ·have h:Hid (zH c=false):=zcV (by omega)
  have j:decide (48≤c)=false:=decide_eq_false (by omega)
  go_enter Tryz.func158,Tryz.ntmps158
  go_wp2
  go_ret
  exact⟨zk h.out.symm,rfl⟩
theorem zeJ (c:Int) (j:Bool) (w:World) (A:0≤c) (z:c≤255):
  Calls Tryz.prog 159 #[.int .u8 c,.bool j] w fun e w'=>e= .returned (.bool (zK j c))∧w'=w:=by
 have O:(97≤c∧c≤122)∨(65≤c∧c≤90)∨(48≤c∧c≤57)∨c=95∨c=36∨(c<65∧¬(48≤c∧c≤57)∧c≠36)∨(91≤c∧c≤96∧c≠95)∨123≤c:=by omega
 rcases O with r|r|r|r|r|r|r|r
 ·have h:Hid (zK j c=true):=zeI.2 (by omega)
  have H:decide (97≤c)=true:=decide_eq_true (by omega)
  have U:decide (c≤122)=true:=decide_eq_true (by omega)
  clear r
  go_enter Tryz.func159,Tryz.ntmps159
  go_wp2_with (first|(go_at_call 158;refine (zbQ _ _ A z).mono ?_;rintro e w' ⟨rfl,rfl⟩))
  go_ret
  exact⟨zk h.out.symm,rfl⟩
 ·have h:Hid (zK j c=true):=zeI.2 (by omega)
  have H:decide (97≤c)=false:=decide_eq_false (by omega)
  have I:decide (65≤c)=true:=decide_eq_true (by omega)
  have N:decide (c≤90)=true:=decide_eq_true (by omega)
  clear r
  go_enter Tryz.func159,Tryz.ntmps159
  go_wp2_with (first|(go_at_call 158;refine (zbQ _ _ A z).mono ?_;rintro e w' ⟨rfl,rfl⟩))
  go_ret
  exact⟨zk h.out.symm,rfl⟩
 ·have h:Hid (zK j c=true):=zeI.2 (by omega)
  have H:decide (97≤c)=false:=decide_eq_false (by omega)
  have I:decide (65≤c)=false:=decide_eq_false (by omega)
  have J:zH c=true:=zcI.2 r
  clear r
  go_enter Tryz.func159,Tryz.ntmps159
  go_wp2_with (first|(go_at_call 158;refine (zbQ _ _ A z).mono ?_;rintro e w' ⟨rfl,rfl⟩))
  go_ret
  exact⟨zk h.out.symm,rfl⟩
 ·have h:Hid (zK j c=true):=zeI.2 (by omega)
  have H:decide (97≤c)=false:=decide_eq_false (by omega)
  have I:decide (65≤c)=true:=decide_eq_true (by omega)
  have N:decide (c≤90)=false:=decide_eq_false (by omega)
  have J:zH c=false:=zcV (by omega)
  have L:(c==95)=true:=beq_iff_eq.2 (by omega)
  clear r
  go_enter Tryz.func159,Tryz.ntmps159
  go_wp2_with (first|(go_at_call 158;refine (zbQ _ _ A z).mono ?_;rintro e w' ⟨rfl,rfl⟩))
  go_ret
  exact⟨zk h.out.symm,rfl⟩
 ·cases j
  ·have h:Hid (zK false c=false):=zei (by simp;omega)
   have H:decide (97≤c)=false:=decide_eq_false (by omega)
   have I:decide (65≤c)=false:=decide_eq_false (by omega)
   have J:zH c=false:=zcV (by omega)
   have L:(c==95)=false:=beq_eq_false_iff_ne.2 (by omega)
   have M:(c==36)=true:=beq_iff_eq.2 (by omega)
   clear r
   go_enter Tryz.func159,Tryz.ntmps159
   go_wp2_with (first|(go_at_call 158;refine (zbQ _ _ A z).mono ?_;rintro e w' ⟨rfl,rfl⟩))
   go_ret
   exact⟨zk h.out.symm,rfl⟩
  ·have h:Hid (zK true c=true):=zeI.2 (by simp;omega)
   have H:decide (97≤c)=false:=decide_eq_false (by omega)
   have I:decide (65≤c)=false:=decide_eq_false (by omega)
   have J:zH c=false:=zcV (by omega)
   have L:(c==95)=false:=beq_eq_false_iff_ne.2 (by omega)
   have M:(c==36)=true:=beq_iff_eq.2 (by omega)
   clear r
   go_enter Tryz.func159,Tryz.ntmps159
   go_wp2_with (first|(go_at_call 158;refine (zbQ _ _ A z).mono ?_;rintro e w' ⟨rfl,rfl⟩))
   go_ret
   exact⟨zk h.out.symm,rfl⟩
 ·cases j
  ·have h:Hid (zK false c=false):=zei (by simp;omega)
   have H:decide (97≤c)=false:=decide_eq_false (by omega)
   have I:decide (65≤c)=false:=decide_eq_false (by omega)
   have J:zH c=false:=zcV (by omega)
   have L:(c==95)=false:=beq_eq_false_iff_ne.2 (by omega)
   have M:(c==36)=false:=beq_eq_false_iff_ne.2 (by omega)
   clear r
   go_enter Tryz.func159,Tryz.ntmps159
   go_wp2_with (first|(go_at_call 158;refine (zbQ _ _ A z).mono ?_;rintro e w' ⟨rfl,rfl⟩))
   go_ret
   exact⟨zk h.out.symm,rfl⟩
  ·have h:Hid (zK true c=false):=zei (by simp;omega)
   have H:decide (97≤c)=false:=decide_eq_false (by omega)
   have I:decide (65≤c)=false:=decide_eq_false (by omega)
   have J:zH c=false:=zcV (by omega)
   have L:(c==95)=false:=beq_eq_false_iff_ne.2 (by omega)
   have M:(c==36)=false:=beq_eq_false_iff_ne.2 (by omega)
   clear r
   go_enter Tryz.func159,Tryz.ntmps159
   go_wp2_with (first|(go_at_call 158;refine (zbQ _ _ A z).mono ?_;rintro e w' ⟨rfl,rfl⟩))
   go_ret
   exact⟨zk h.out.symm,rfl⟩
 ·cases j
  ·have h:Hid (zK false c=false):=zei (by simp;omega)
   have H:decide (97≤c)=false:=decide_eq_false (by omega)
   have I:decide (65≤c)=true:=decide_eq_true (by omega)
   have N:decide (c≤90)=false:=decide_eq_false (by omega)
   have J:zH c=false:=zcV (by omega)
   have L:(c==95)=false:=beq_eq_false_iff_ne.2 (by omega)
   have M:(c==36)=false:=beq_eq_false_iff_ne.2 (by omega)
   clear r
   go_enter Tryz.func159,Tryz.ntmps159
   go_wp2_with (first|(go_at_call 158;refine (zbQ _ _ A z).mono ?_;rintro e w' ⟨rfl,rfl⟩))
   go_ret
   exact⟨zk h.out.symm,rfl⟩
  ·have h:Hid (zK true c=false):=zei (by simp;omega)
   have H:decide (97≤c)=false:=decide_eq_false (by omega)
   have I:decide (65≤c)=true:=decide_eq_true (by omega)
   have N:decide (c≤90)=false:=decide_eq_false (by omega)
   have J:zH c=false:=zcV (by omega)
   have L:(c==95)=false:=beq_eq_false_iff_ne.2 (by omega)
   have M:(c==36)=false:=beq_eq_false_iff_ne.2 (by omega)
   clear r
   go_enter Tryz.func159,Tryz.ntmps159
   go_wp2_with (first|(go_at_call 158;refine (zbQ _ _ A z).mono ?_;rintro e w' ⟨rfl,rfl⟩))
   go_ret
   exact⟨zk h.out.symm,rfl⟩
 ·cases j
  ·have h:Hid (zK false c=false):=zei (by simp;omega)
   have H:decide (97≤c)=true:=decide_eq_true (by omega)
   have U:decide (c≤122)=false:=decide_eq_false (by omega)
   have I:decide (65≤c)=true:=decide_eq_true (by omega)
   have N:decide (c≤90)=false:=decide_eq_false (by omega)
   have J:zH c=false:=zcV (by omega)
   have L:(c==95)=false:=beq_eq_false_iff_ne.2 (by omega)
   have M:(c==36)=false:=beq_eq_false_iff_ne.2 (by omega)
   clear r
   go_enter Tryz.func159,Tryz.ntmps159
   go_wp2_with (first|(go_at_call 158;refine (zbQ _ _ A z).mono ?_;rintro e w' ⟨rfl,rfl⟩))
   go_ret
   exact⟨zk h.out.symm,rfl⟩
  ·have h:Hid (zK true c=false):=zei (by simp;omega)
   have H:decide (97≤c)=true:=decide_eq_true (by omega)
   have U:decide (c≤122)=false:=decide_eq_false (by omega)
   have I:decide (65≤c)=true:=decide_eq_true (by omega)
   have N:decide (c≤90)=false:=decide_eq_false (by omega)
   have J:zH c=false:=zcV (by omega)
   have L:(c==95)=false:=beq_eq_false_iff_ne.2 (by omega)
   have M:(c==36)=false:=beq_eq_false_iff_ne.2 (by omega)
   clear r
   go_enter Tryz.func159,Tryz.ntmps159
   go_wp2_with (first|(go_at_call 158;refine (zbQ _ _ A z).mono ?_;rintro e w' ⟨rfl,rfl⟩))
   go_ret
   exact⟨zk h.out.symm,rfl⟩
def zej (c:Int):Bool:=decide (zbB c)
theorem zgD (c:Int) (w:World) (U:0≤c) (O:c≤255):
  Calls Tryz.prog 185 #[.int .u8 c] w fun e w'=>e= .returned (.bool (zej c))∧w'=w:=by
 have z:c<32∨127≤c∨c=34∨c=92∨zbB c:=by unfold zbB;omega
 rcases z with r|r|r|r|r
 ·have j:Hid (zej c=false):=decide_eq_false (fun h=>by unfold zbB at h;omega)
  have A:decide (32≤c)=false:=decide_eq_false (by omega)
  clear r
  go_enter Tryz.func185,Tryz.ntmps185
  go_wp2
  go_ret
  exact⟨zk j.out.symm,rfl⟩
 ·have j:Hid (zej c=false):=decide_eq_false (fun h=>by unfold zbB at h;omega)
  have A:decide (32≤c)=true:=decide_eq_true (by omega)
  have J:decide (c≤126)=false:=decide_eq_false (by omega)
  clear r
  go_enter Tryz.func185,Tryz.ntmps185
  go_wp2
  go_ret
  exact⟨zk j.out.symm,rfl⟩
 ·have j:Hid (zej c=false):=decide_eq_false (fun h=>by unfold zbB at h;omega)
  subst r
  go_enter Tryz.func185,Tryz.ntmps185
  go_wp2
  go_ret
  exact⟨zk j.out.symm,rfl⟩
 ·have j:Hid (zej c=false):=decide_eq_false (fun h=>by unfold zbB at h;omega)
  subst r
  go_enter Tryz.func185,Tryz.ntmps185
  go_wp2
  go_ret
  exact⟨zk j.out.symm,rfl⟩
 ·have j:Hid (zej c=true):=decide_eq_true r
  obtain⟨M,H,L,I⟩:=r
  have A:decide (32≤c)=true:=decide_eq_true (by omega)
  have J:decide (c≤126)=true:=decide_eq_true (by omega)
  have N:(c !=34)=true:=bne_iff_ne.2 (by omega)
  have V:(c !=92)=true:=bne_iff_ne.2 (by omega)
  clear M H L I
  go_enter Tryz.func185,Tryz.ntmps185
  go_wp2
  go_ret
  exact⟨zk j.out.symm,rfl⟩
abbrev zek (c:Int):Prop:=48≤c∧c≤57
def dv (s:ByteArray) (p:Nat):Nat→Int
 |0=>0
 |k+1=>dv s p k*10+(bt s (p+k)-48)
theorem ztA (s:ByteArray) (p k:Nat) (h: ∀j,j<k→zek (bt s (p+j))):0≤dv s p k∧dv s p k<10^k:=by
 induction k with
 |zero=>simp[dv]
 |succ k w=>
  obtain⟨a,b⟩:=w (fun j z=>h j (by omega))
  have c:=h k (by omega)
  unfold zek at c
  rw[dv,zdJ]
  omega
theorem ztB (k:Nat) (h:k≤9):(10:Int)^k≤1000000000:=by
 have:=zeV h
 have e:(10:Int)^9=1000000000:=by decide
 omega
def pfx (s:ByteArray):Nat:=if bt s 0=45 then 1 else 0
theorem ztC (s:ByteArray):pfx s≤s.size:=by
 unfold pfx
 split
 ·rename_i h
  rcases Nat.eq_zero_or_pos s.size with e|e
  ·rw[bt_end s (by omega)] at h
   omega
  ·omega
 ·omega
abbrev RdP (s:ByteArray):Prop:=
 1≤s.size-pfx s∧s.size-pfx s≤9∧(∀j,j<s.size-pfx s→zek (bt s (pfx s+j)))∧(bt s (pfx s)≠48∨(pfx s=0∧s.size=1))
def zeK (s:ByteArray):Bool:=decide (RdP s)
def rdV (s:ByteArray):Int:=if zeK s then (if pfx s=1 then-dv s 1 (s.size-1) else dv s 0 s.size) else 0
theorem zf5 {s:ByteArray} (h:RdP s):zeK s=true:=decide_eq_true h
theorem zd6 {s:ByteArray} (h: ¬RdP s):zeK s=false:=decide_eq_false h
theorem zel {s:ByteArray} (h: ¬RdP s):rdV s=0:=by rw[rdV,zd6 h];rfl
def spV (s:ByteArray):Nat→Int
 |0=>0
 |k+1=>if zek (bt s k) then spV s k*10+(bt s k-48) else spV s k
def spK (s:ByteArray):Nat→Int
 |0=>0
 |k+1=>if zek (bt s k) then spK s k+1 else spK s k
def spN (s:ByteArray):Int:=if bt s 0=45 then-spV s s.size else spV s s.size
end Go.Proofs.YtjdddblpfbmpaaaGreat
