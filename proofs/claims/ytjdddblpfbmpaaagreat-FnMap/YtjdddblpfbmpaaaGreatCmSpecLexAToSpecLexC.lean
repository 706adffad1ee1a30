/-
  What spec's parts of Lex answer: l3Letter,l3Digit,l3Sign,l3Word,l3Num,l3Str,l3Skip: the walks.
  What spec's parts of Lex answer: l3Word,l3Num,l3Str,l3Skip: the walks.
  What spec's parts of Lex answer: l3Num,l3Skip: the walks.
-/
import Derived.Test.YtjdddblpfbmpaaaGreatProg
import Derived.WalkLawsBesides
import Derived.Test.YtjdddblpfbmpaaaGreatCmAidToTreeMath
namespace Go.Proofs.YtjdddblpfbmpaaaGreat
set_option maxHeartbeats 3200000
open Go.RowKit Go.PlainAid
theorem zdW {c:Int} {j:Bool} (h: ¬((97≤c∧c≤122)∨(65≤c∧c≤90)∨c=95∨(j=true∧c=36))):za3 c j=false:=by
 rw[Bool.eq_false_iff]
 exact fun k=>h (zdR.1 k)
theorem zjc {c:Int} (h: ¬(48≤c∧c≤57)):zK c=false:=decide_eq_false h
theorem zdg (c:Int) (q:Bool) (w:World) (Y:0≤c) (X:c≤255):
  Calls Tryz.prog 138 #[.int .u8 c,.bool q] w fun e w'=>e= .returned (.bool (za3 c q))∧w'=w:=by
 by_cases U:97≤c
 ·by_cases V:c≤122
  ·skip
   have z:decide (97≤c)=true:=decide_eq_true (by omega)
   have L:decide (c≤122)=true:=decide_eq_true (by omega)
   have j:Hid (za3 c q=true):=zdR.2 (by first|omega|(simp;omega))
   go_enter Tryz.func138,Tryz.ntmps138
   go_wp2
   go_ret
   exact⟨zh j.out.symm,rfl⟩
  ·skip
   cases q with
   |true=>
    have z:decide (97≤c)=true:=decide_eq_true (by omega)
    have L:decide (c≤122)=false:=decide_eq_false (by omega)
    have A:decide (65≤c)=true:=decide_eq_true (by omega)
    have J:decide (c≤90)=false:=decide_eq_false (by omega)
    have H:(c==95)=false:=beq_eq_false_iff_ne.2 (by omega)
    have I:(c==36)=false:=beq_eq_false_iff_ne.2 (by omega)
    have j:Hid (za3 c true=false):=zdW (by first|omega|(simp;omega))
    go_enter Tryz.func138,Tryz.ntmps138
    go_wp2
    go_ret
    exact⟨zh j.out.symm,rfl⟩
   |false=>
    have z:decide (97≤c)=true:=decide_eq_true (by omega)
    have L:decide (c≤122)=false:=decide_eq_false (by omega)
    have A:decide (65≤c)=true:=decide_eq_true (by omega)
    have J:decide (c≤90)=false:=decide_eq_false (by omega)
    have H:(c==95)=false:=beq_eq_false_iff_ne.2 (by omega)
    have I:(c==36)=false:=beq_eq_false_iff_ne.2 (by omega)
    have j:Hid (za3 c false=false):=zdW (by first|omega|(simp;omega))
    go_enter Tryz.func138,Tryz.ntmps138
    go_wp2
    go_ret
    exact⟨zh j.out.symm,rfl⟩
 ·by_cases Z:65≤c
  ·by_cases O:c≤90
   ·skip
    have z:decide (97≤c)=false:=decide_eq_false (by omega)
    have A:decide (65≤c)=true:=decide_eq_true (by omega)
    have J:decide (c≤90)=true:=decide_eq_true (by omega)
    have j:Hid (za3 c q=true):=zdR.2 (by first|omega|(simp;omega))
    go_enter Tryz.func138,Tryz.ntmps138
    go_wp2
    go_ret
    exact⟨zh j.out.symm,rfl⟩
   ·by_cases N:c=95
    ·skip
     have z:decide (97≤c)=false:=decide_eq_false (by omega)
     have A:decide (65≤c)=true:=decide_eq_true (by omega)
     have J:decide (c≤90)=false:=decide_eq_false (by omega)
     have H:(c==95)=true:=beq_iff_eq.2 (by omega)
     have j:Hid (za3 c q=true):=zdR.2 (by first|omega|(simp;omega))
     clear N
     go_enter Tryz.func138,Tryz.ntmps138
     go_wp2
     go_ret
     exact⟨zh j.out.symm,rfl⟩
    ·skip
     cases q with
     |true=>
      have z:decide (97≤c)=false:=decide_eq_false (by omega)
      have A:decide (65≤c)=true:=decide_eq_true (by omega)
      have J:decide (c≤90)=false:=decide_eq_false (by omega)
      have H:(c==95)=false:=beq_eq_false_iff_ne.2 (by omega)
      have I:(c==36)=false:=beq_eq_false_iff_ne.2 (by omega)
      have j:Hid (za3 c true=false):=zdW (by first|omega|(simp;omega))
      go_enter Tryz.func138,Tryz.ntmps138
      go_wp2
      go_ret
      exact⟨zh j.out.symm,rfl⟩
     |false=>
      have z:decide (97≤c)=false:=decide_eq_false (by omega)
      have A:decide (65≤c)=true:=decide_eq_true (by omega)
      have J:decide (c≤90)=false:=decide_eq_false (by omega)
      have H:(c==95)=false:=beq_eq_false_iff_ne.2 (by omega)
      have I:(c==36)=false:=beq_eq_false_iff_ne.2 (by omega)
      have j:Hid (za3 c false=false):=zdW (by first|omega|(simp;omega))
      go_enter Tryz.func138,Tryz.ntmps138
      go_wp2
      go_ret
      exact⟨zh j.out.symm,rfl⟩
  ·by_cases M:c=36
   ·skip
    cases q with
    |true=>
     have z:decide (97≤c)=false:=decide_eq_false (by omega)
     have A:decide (65≤c)=false:=decide_eq_false (by omega)
     have H:(c==95)=false:=beq_eq_false_iff_ne.2 (by omega)
     have I:(c==36)=true:=beq_iff_eq.2 (by omega)
     have j:Hid (za3 c true=true):=zdR.2 (by first|omega|(simp;omega))
     clear M
     go_enter Tryz.func138,Tryz.ntmps138
     go_wp2
     go_ret
     exact⟨zh j.out.symm,rfl⟩
    |false=>
     have z:decide (97≤c)=false:=decide_eq_false (by omega)
     have A:decide (65≤c)=false:=decide_eq_false (by omega)
     have H:(c==95)=false:=beq_eq_false_iff_ne.2 (by omega)
     have I:(c==36)=true:=beq_iff_eq.2 (by omega)
     have j:Hid (za3 c false=false):=zdW (by first|omega|(simp;omega))
     clear M
     go_enter Tryz.func138,Tryz.ntmps138
     go_wp2
     go_ret
     exact⟨zh j.out.symm,rfl⟩
   ·skip
    cases q with
    |true=>
     have z:decide (97≤c)=false:=decide_eq_false (by omega)
     have A:decide (65≤c)=false:=decide_eq_false (by omega)
     have H:(c==95)=false:=beq_eq_false_iff_ne.2 (by omega)
     have I:(c==36)=false:=beq_eq_false_iff_ne.2 (by omega)
     have j:Hid (za3 c true=false):=zdW (by first|omega|(simp;omega))
     go_enter Tryz.func138,Tryz.ntmps138
     go_wp2
     go_ret
     exact⟨zh j.out.symm,rfl⟩
    |false=>
     have z:decide (97≤c)=false:=decide_eq_false (by omega)
     have A:decide (65≤c)=false:=decide_eq_false (by omega)
     have H:(c==95)=false:=beq_eq_false_iff_ne.2 (by omega)
     have I:(c==36)=false:=beq_eq_false_iff_ne.2 (by omega)
     have j:Hid (za3 c false=false):=zdW (by first|omega|(simp;omega))
     go_enter Tryz.func138,Tryz.ntmps138
     go_wp2
     go_ret
     exact⟨zh j.out.symm,rfl⟩
theorem zcl (c:Int) (w:World) (J:0≤c) (I:c≤255):
  Calls Tryz.prog 140 #[.int .u8 c] w fun e w'=>e= .returned (.bool (zK c))∧w'=w:=by
 by_cases q:48≤c
 ·have H:decide (48≤c)=true:=decide_eq_true q
  by_cases z:c≤57
  ·have A:decide (c≤57)=true:=decide_eq_true z
   have j:Hid (zK c=true):=zc7.2 ⟨q,z⟩
   go_enter Tryz.func140,Tryz.ntmps140
   go_wp2
   go_ret
   exact⟨zh j.out.symm,rfl⟩
  ·have A:decide (c≤57)=false:=decide_eq_false z
   have j:Hid (zK c=false):=zjc (by omega)
   go_enter Tryz.func140,Tryz.ntmps140
   go_wp2
   go_ret
   exact⟨zh j.out.symm,rfl⟩
 ·have H:decide (48≤c)=false:=decide_eq_false q
  have j:Hid (zK c=false):=zjc (by omega)
  go_enter Tryz.func140,Tryz.ntmps140
  go_wp2
  go_ret
  exact⟨zh j.out.symm,rfl⟩
def signS:ByteArray:={data:=#[123,125,40,41,44,59,61,46,42,43,45]}
theorem zmQ (k:Nat) (h:k<11):zbn (bt signS k):=by
 have: ∀k:Fin 11,zbn (bt signS k.val):=by decide
 exact this ⟨k,h⟩
theorem zmR (c:Int) (h:zbn c): ∃k,k<11∧bt signS k=c:=by
 rcases h with rfl|rfl|rfl|rfl|rfl|rfl|rfl|rfl|rfl|rfl|rfl
 ·exact⟨0,by decide⟩
 ·exact⟨1,by decide⟩
 ·exact⟨2,by decide⟩
 ·exact⟨3,by decide⟩
 ·exact⟨4,by decide⟩
 ·exact⟨5,by decide⟩
 ·exact⟨6,by decide⟩
 ·exact⟨7,by decide⟩
 ·exact⟨8,by decide⟩
 ·exact⟨9,by decide⟩
 ·exact⟨10,by decide⟩
def zfi (c:Int):Bool:=decide (zbn c)
theorem zjd (c:Int) (w:World):
  Calls Tryz.prog 143 #[.int .u8 c] w fun e w'=>e= .returned (.bool (zfi c))∧w'=w:=by
 have U:=get_bt signS
 have M:signS.size=11:=rfl
 obtain⟨S,H⟩: ∃S,signS=S:=⟨_,rfl⟩
 have N:Hid (signS=S):=H
 rw[H] at U M
 go_enter Tryz.func143,Tryz.ntmps143
 go_wp2
 rw[show ({data:=#[123,125,40,41,44,59,61,46,42,43,45]}:ByteArray)=S from H]
 clear H
 go_loop [4] (fun i=>∃k:Nat,k≤11∧i= .int .i64 k∧∀j,j<k→bt S j≠c) (fun i=>(11-intOf i).toNat)
 case atStart=>exact⟨0,by omega,rfl,fun j J=>absurd J (Nat.not_lt_zero j)⟩
 case round=>
  obtain⟨k,X,rfl,z⟩:=hrel
  have A:Hid (∀j,j<k→bt S j≠c):=z
  clear z
  by_cases I:k<11
  ·by_cases q:bt S k=c
   ·have O:(bt S k==c)=true:=by simpa using q
    have L:Hid (zfi c=true):=decide_eq_true (by rw[←q,←N.out];exact zmQ k I)
    clear q
    go_wp2
    go_ret
    exact⟨zh L.out.symm,rfl⟩
   ·have O:(bt S k==c)=false:=by simpa using q
    have V:Hid (∀j,j<k+1→bt S j≠c):=fun j J=>by
     by_cases e:j=k
     ·rw[e];exact q
     ·exact A.out j (by omega)
    clear q
    go_wp2
    go_round
    case rel=>exact⟨k+1,by omega,by go_num,V.out⟩
    case measure=>simp[intOf];omega
  ·have L:Hid (zfi c=false):=decide_eq_false (fun h=>by
    obtain⟨j,J,e⟩:=zmR c h
    rw[N.out] at e
    exact A.out j (by omega) e)
   go_wp2
   go_ret
   exact⟨zh L.out.symm,rfl⟩
theorem zmS {c:Int} {j:Bool} (h:za3 c j=true):zL j c=true:=by simp[zL,h]
theorem zmT {c:Int} {j:Bool} (h:zK c=true):zL j c=true:=by simp[zL,h]
theorem zmU {c:Int} {j:Bool} (h:za3 c j=false) (k:zK c=false):zL j c=false:=by simp[zL,h,k]
theorem zfj {p:Int→Bool} {s:ByteArray} {a k:Nat} (h: ∀j,a≤j→j<k→p (bt s j)=true) (q:p (bt s k)=true): ∀j,a≤j→j<k+1→p (bt s j)=true:=by
 intro j z A
 by_cases e:j=k
 ·rw[e];exact q
 ·exact h j z (by omega)
theorem zmV (s:ByteArray) (a:Nat) (q:Bool) (w:World) (X:a≤s.size) (hs:s.size≤4294967296):
  Calls Tryz.prog 139 #[.string s,.int .i64 a,.bool q] w fun e w'=>∃n:Nat,e= .returned (.int .i64 n)∧za4 (zL q) s a n∧w'=w:=by
 have hb:=get_bt s
 go_enter Tryz.func139,Tryz.ntmps139
 go_wp2
 go_loop [1] (fun i=>∃k:Nat,a≤k∧k≤s.size∧i= .int .i64 k∧∀j,a≤j→j<k→zL q (bt s j)=true) (fun i=>(s.size-intOf i).toNat)
 case atStart=>exact⟨a,Nat.le_refl _,X,rfl,fun j Z Y=>by omega⟩
 case round=>
  obtain⟨k,L,J,rfl,I⟩:=hrel
  have H:Hid (∀j,a≤j→j<k→zL q (bt s j)=true):=I
  clear I
  by_cases M:k<s.size
  ·have z:=bt_nonneg s k
   have A:=bt_le s k
   cases V:za3 (bt s k) q with
   |true=>
    have O:Hid (∀j,a≤j→j<k+1→zL q (bt s j)=true):=zfj H.out (zmS V)
    go_wp2_with (first|(go_at_call 138;refine (zdg _ _ _ z A).mono ?_;rintro e w' ⟨rfl,rfl⟩)|(go_at_call 140;refine (zcl _ _ z A).mono ?_;rintro e w' ⟨rfl,rfl⟩))
    go_round
    case rel=>exact⟨k+1,by omega,by omega,by go_num,O.out⟩
    case measure=>simp[intOf];omega
   |false=>
    cases U:zK (bt s k) with
    |true=>
     have O:Hid (∀j,a≤j→j<k+1→zL q (bt s j)=true):=zfj H.out (zmT U)
     go_wp2_with (first|(go_at_call 138;refine (zdg _ _ _ z A).mono ?_;rintro e w' ⟨rfl,rfl⟩)|(go_at_call 140;refine (zcl _ _ z A).mono ?_;rintro e w' ⟨rfl,rfl⟩))
     go_round
     case rel=>exact⟨k+1,by omega,by omega,by go_num,O.out⟩
     case measure=>simp[intOf];omega
    |false=>
     have N:Hid (za4 (zL q) s a k):=⟨L,J,H.out,fun _=>zmU V U⟩
     go_wp2_with (first|(go_at_call 138;refine (zdg _ _ _ z A).mono ?_;rintro e w' ⟨rfl,rfl⟩)|(go_at_call 140;refine (zcl _ _ z A).mono ?_;rintro e w' ⟨rfl,rfl⟩))
     go_ret
     exact⟨k,rfl,N.out,rfl⟩
  ·have N:Hid (za4 (zL q) s a k):=⟨L,J,H.out,fun h=>absurd h M⟩
   go_wp2
   go_ret
   exact⟨k,rfl,N.out,rfl⟩
theorem zgi {s:ByteArray} {a k:Nat} (q: ∀j,a<j→j<k→zbD (bt s j)) (h:s.size≤k∨a+42≤k): ∀e,¬zb1 s a e:=by
 intro e ⟨h1,h2,h3,h4,_⟩
 exact absurd h4 (q (e-1) (by omega) (by omega)).2.2.1
theorem zgj {s:ByteArray} {a k:Nat} (A:a<k) (q: ∀j,a<j→j<k→zbD (bt s j)) (z:bt s k≠34) (h: ¬zbD (bt s k)): ∀e,¬zb1 s a e:=by
 intro e ⟨h1,h2,h3,h4,h5⟩
 rcases Nat.lt_trichotomy (e-1) k with g|g|g
 ·exact absurd h4 (q (e-1) (by omega) g).2.2.1
 ·rw[g] at h4;exact z h4
 ·exact h (h5 k A (by omega))
theorem zmW (s:ByteArray) (a:Nat) (w:World) (ha:a<s.size) (hs:s.size≤4294967296):
  Calls Tryz.prog 142 #[.string s,.int .i64 a] w fun e w'=>∃z:Int,e= .returned (.int .i64 z)∧((∃n:Nat,z=n∧zb1 s a n)∨(z= -1∧∀n,¬zb1 s a n))∧w'=w:=by
 have hb:=get_bt s
 go_enter Tryz.func142,Tryz.ntmps142
 go_wp2
 go_loop [5] (fun i=>∃k:Nat,a<k∧k≤s.size∧k≤a+42∧i= .int .i64 k∧∀j,a<j→j<k→zbD (bt s j)) (fun i=>(s.size-intOf i).toNat)
 case atStart=>exact⟨a+1,by omega,by omega,by omega,by go_num,fun j L N=>by omega⟩
 case round=>
  obtain⟨k,I,Z,ab,rfl,M⟩:=hrel
  have A:Hid (∀j,a<j→j<k→zbD (bt s j)):=M
  clear M
  by_cases X:k<s.size
  ·have aa:=bt_nonneg s k
   have ac:=bt_le s k
   by_cases V:k≤a+41
   ·have Y:decide ((k:Int)≤(a:Int)+1+40)=true:=decide_eq_true (by omega)
    by_cases q:bt s k=34
    ·have HE:Hid (zb1 s a (k+1)):=⟨by omega,by omega,by omega,by rw[Nat.add_sub_cancel];exact q,fun j L N=>A.out j L (by omega)⟩
     have O:(bt s k==34)=true:=by simpa using q
     clear q
     go_wp2
     go_ret
     exact⟨(k:Int)+1,rfl,.inl ⟨k+1,by omega,HE.out⟩,rfl⟩
    ·have O:(bt s k==34)=false:=by simpa using q
     by_cases L:bt s k<32
     ·have H:Hid (∀e,¬zb1 s a e):=zgj I A.out q (fun h=>by have:=h.1;omega)
      have q1:decide (bt s k<32)=true:=decide_eq_true L
      clear q
      go_wp2
      go_ret
      exact⟨-1,rfl,.inr ⟨rfl,H.out⟩,rfl⟩
     ·have q1:decide (bt s k<32)=false:=decide_eq_false L
      by_cases N:126<bt s k
      ·have H:Hid (∀e,¬zb1 s a e):=zgj I A.out q (fun h=>by have:=h.2.1;omega)
       have q2:decide (126<bt s k)=true:=decide_eq_true N
       clear q
       go_wp2
       go_ret
       exact⟨-1,rfl,.inr ⟨rfl,H.out⟩,rfl⟩
      ·have q2:decide (126<bt s k)=false:=decide_eq_false N
       by_cases J:bt s k=92
       ·have H:Hid (∀e,¬zb1 s a e):=zgj I A.out q (fun h=>h.2.2.2 J)
        have U:(bt s k==92)=true:=by simpa using J
        clear q J O
        have O:(bt s k==34)=false:=beq_eq_false_iff_ne.2 (by have:=beq_iff_eq.1 U;omega)
        go_wp2
        go_ret
        exact⟨-1,rfl,.inr ⟨rfl,H.out⟩,rfl⟩
       ·have U:(bt s k==92)=false:=by simpa using J
        have HX:Hid (∀j,a<j→j<k+1→zbD (bt s j)):=fun j g1 g2=>by
         by_cases e:j=k
         ·rw[e];exact⟨by omega,by omega,q,J⟩
         ·exact A.out j g1 (by omega)
        clear q J
        go_wp2
        go_round
        case rel=>exact⟨k+1,by omega,by omega,by omega,by go_num,HX.out⟩
        case measure=>simp[intOf];omega
   ·have H:Hid (∀e,¬zb1 s a e):=zgi A.out (.inr (by omega))
    have Y:decide ((k:Int)≤(a:Int)+1+40)=false:=decide_eq_false (by omega)
    go_wp2
    go_ret
    exact⟨-1,rfl,.inr ⟨rfl,H.out⟩,rfl⟩
  ·have H:Hid (∀e,¬zb1 s a e):=zgi A.out (.inl (by omega))
   go_wp2
   go_ret
   exact⟨-1,rfl,.inr ⟨rfl,H.out⟩,rfl⟩
theorem zje {s:ByteArray} {a k e:Nat} {A:Bool} {n:Int} (z: ∀j,a≤j→j<k→zK (bt s j)=true) (h:zaV s a A n e):k≤e∨e<k∧s.size≤e:=by
 obtain⟨⟨I,J,M,H⟩,L,_⟩:=h
 rcases Nat.lt_or_ge e k with g|g
 ·right
  refine⟨g,?_⟩
  rcases Nat.lt_or_ge e s.size with q|q
  ·have:=z e I g
   rw[H q] at this
   cases this
  ·exact q
 ·exact .inl g
theorem zmX {s:ByteArray} {a k:Nat} {z:Bool} (I:a<k) (A:k<s.size) (q: ∀j,a≤j→j<k+1→zK (bt s j)=true) (H:bt s a=48): ∀n e,¬zaV s a z n e:=by
 intro n e h
 have J:=zje q h
 rcases h.2.2.1 with g|g
 ·omega
 ·exact g H
theorem zmY {s:ByteArray} {a k:Nat} {z:Bool} (H:a≤k) (A:k<s.size) (q: ∀j,a≤j→j<k+1→zK (bt s j)=true) (O:1000000<zbE s a (k+1-a)): ∀n e,¬zaV s a z n e:=by
 intro n e h
 have M:=zje q h
 have J:=zhi (s:=s) (a:=a) (k+1-a) (e-a) (fun j I=>(zc7.1 (h.1.2.2.1 (a+j) (by omega) (by omega))).1) (by omega)
 have N:=h.2.2.2.1
 have L:=h.2.2.2.2.1
 omega
theorem zmZ {s:ByteArray} {a k:Nat} {j:Bool} (H:za4 zK s a k) (z:k<s.size) (A:za3 (bt s k) j=true): ∀n e,¬zaV s a j n e:=by
 intro n e h
 have:=zeZ H h.1
 subst this
 have q:=h.2.2.2.2.2 z
 rw[A] at q
 cases q
theorem zna (s:ByteArray) (a:Nat) (q:Bool) (w:World) (ha:a<s.size) (aa:zK (bt s a)=true) (hs:s.size≤4294967296):
  Calls Tryz.prog 141 #[.string s,.int .i64 a,.bool q] w fun e w'=>∃n z:Int,e= .returned (.tuple #[.int .i64 n,.int .i64 z])∧((∃m:Nat,z=m∧zaV s a q n m)∨(n=0∧z= -1∧∀n m,¬zaV s a q n m))∧w'=w:=by
 have hb:=get_bt s
 have ab:Hid (zK (bt s a)=true):=aa
 clear aa
 go_enter Tryz.func141,Tryz.ntmps141
 go_wp2
 go_loop [8,9] (fun n i=>∃(k:Nat) (v:Int),a≤k∧k≤s.size∧i= .int .i64 k∧n= .int .i64 v∧v=zbE s a (k-a)∧0≤v∧v≤1000000∧(k≤a+1∨bt s a≠48)∧∀j,a≤j→j<k→zK (bt s j)=true) (fun _ i=>(s.size-intOf i).toNat)
 case atStart=>exact⟨a,0,Nat.le_refl _,by omega,rfl,rfl,by rw[Nat.sub_self];rfl,by omega,by omega,.inl (by omega),fun j h1 h2=>by omega⟩
 case round=>
  obtain⟨k,v,M,V,rfl,rfl,hv,af,X,hz,Z⟩:=hrel
  have N:Hid (∀j,a≤j→j<k→zK (bt s j)=true):=Z
  have HV:Hid (v=zbE s a (k-a)):=hv
  have HZ:Hid (k≤a+1∨bt s a≠48):=hz
  clear Z hv hz
  by_cases L:k<s.size
  ·have A:=bt_nonneg s k
   have H:=bt_le s k
   cases U:zK (bt s k) with
   |true=>
    have ac:=zc7.1 U
    obtain⟨ae,ad⟩:=ac
    have HX:Hid (∀j,a≤j→j<k+1→zK (bt s j)=true):=zfj N.out U
    by_cases I:a<k∧bt s a=48
    ·obtain⟨z1,z2⟩:=I
     have O:Hid (∀n e,¬zaV s a q n e):=zmX z1 L HX.out z2
     have q1:(bt s a==48)=true:=by simpa using z2
     clear z2
     go_wp2_with (first|(go_at_call 140;refine (zcl _ _ A H).mono ?_;rintro e w' ⟨rfl,rfl⟩))
     go_ret2
     exact⟨0,-1,rfl,.inr ⟨rfl,rfl,O.out⟩,rfl⟩
    ·have HD:Hid (zbE s a (k+1-a)=v*10+(bt s k-48)):=by
      show zbE s a (k+1-a)=_
      rw[show k+1-a=(k-a)+1 from by omega,zbE,←HV.out,show a+(k-a)=k from by omega]
     have Y:Hid (k+1≤a+1∨bt s a≠48):=by
      rcases Nat.lt_or_ge a k with g|g
      ·exact .inr fun h=>I ⟨g,h⟩
      ·exact .inl (by omega)
     by_cases hg:1000000<v*10+(bt s k-48)
     ·have O:Hid (∀n e,¬zaV s a q n e):=zmY M L HX.out (by rw[HD.out];exact hg)
      by_cases J:a<k
      ·have q1:(bt s a==48)=false:=beq_eq_false_iff_ne.2 (fun h=>I ⟨J,h⟩)
       clear I
       go_wp2_with (first|(go_at_call 140;refine (zcl _ _ A H).mono ?_;rintro e w' ⟨rfl,rfl⟩))
       go_ret2
       exact⟨0,-1,rfl,.inr ⟨rfl,rfl,O.out⟩,rfl⟩
      ·clear I
       go_wp2_with (first|(go_at_call 140;refine (zcl _ _ A H).mono ?_;rintro e w' ⟨rfl,rfl⟩))
       go_ret2
       exact⟨0,-1,rfl,.inr ⟨rfl,rfl,O.out⟩,rfl⟩
     ·by_cases J:a<k
      ·have q1:(bt s a==48)=false:=beq_eq_false_iff_ne.2 (fun h=>I ⟨J,h⟩)
       clear I
       go_wp2_with (first|(go_at_call 140;refine (zcl _ _ A H).mono ?_;rintro e w' ⟨rfl,rfl⟩))
       go_round
       case rel=>exact⟨k+1,v*10+(bt s k-48),by omega,by omega,by go_num,by go_num,HD.out.symm,by omega,by omega,Y.out,HX.out⟩
       case measure=>simp[intOf];omega
      ·clear I
       go_wp2_with (first|(go_at_call 140;refine (zcl _ _ A H).mono ?_;rintro e w' ⟨rfl,rfl⟩))
       go_round
       case rel=>exact⟨k+1,v*10+(bt s k-48),by omega,by omega,by go_num,by go_num,HD.out.symm,by omega,by omega,Y.out,HX.out⟩
       case measure=>simp[intOf];omega
   |false=>
    have HR:Hid (za4 zK s a k):=⟨M,V,N.out,fun _=>U⟩
    have J:a<k:=by
     rcases Nat.lt_or_ge a k with g|g
     ·exact g
     ·have e:k=a:=by omega
      rw[e,ab.out] at U
      cases U
    cases hl:za3 (bt s k) q with
    |true=>
     have O:Hid (∀n e,¬zaV s a q n e):=zmZ HR.out L hl
     go_wp2_with (first|(go_at_call 138;refine (zdg _ _ _ A H).mono ?_;rintro e w' ⟨rfl,rfl⟩)|(go_at_call 140;refine (zcl _ _ A H).mono ?_;rintro e w' ⟨rfl,rfl⟩))
     go_ret2
     exact⟨0,-1,rfl,.inr ⟨rfl,rfl,O.out⟩,rfl⟩
    |false=>
     have HA:Hid (zaV s a q v k):=⟨HR.out,J,HZ.out.imp (fun g=>by omega) id,HV.out,X,fun _=>hl⟩
     go_wp2_with (first|(go_at_call 138;refine (zdg _ _ _ A H).mono ?_;rintro e w' ⟨rfl,rfl⟩)|(go_at_call 140;refine (zcl _ _ A H).mono ?_;rintro e w' ⟨rfl,rfl⟩))
     go_ret2
     exact⟨v,k,rfl,.inl ⟨k,rfl,HA.out⟩,rfl⟩
  ·have J:a<k:=by omega
   have HA:Hid (zaV s a q v k):=⟨⟨M,V,N.out,fun h=>absurd h L⟩,J,HZ.out.imp (fun g=>by omega) id,HV.out,X,fun h=>absurd h L⟩
   go_wp2
   go_ret2
   exact⟨v,k,rfl,.inl ⟨k,rfl,HA.out⟩,rfl⟩
theorem zjf (s:ByteArray) (a:Nat) (w:World) (ha:a≤s.size) (hs:s.size≤4294967296):
  Calls Tryz.prog 103 #[.string s,.int .i64 a] w fun e w'=>∃n:Nat,e= .returned (.int .i64 n)∧Skip s a n∧w'=w:=by
 have hb:=get_bt s
 go_enter Tryz.func103,Tryz.ntmps103
 go_wp2
 go_loop [1,5] (fun i _=>∃k:Nat,k≤s.size∧i= .int .i64 k∧∀c,Skip s k c→Skip s a c) (fun i _=>(s.size-intOf i).toNat)
 case atStart=>exact⟨a,ha,rfl,fun c h=>h⟩
 case round=>
  obtain⟨k,hk,rfl,V⟩:=hrel
  have J:Hid (∀c,Skip s k c→Skip s a c):=V
  clear V
  by_cases L:k<s.size
  ·have ai:=bt_nonneg s k
   have aj:=bt_le s k
   by_cases z:zc6 (bt s k)
   ·have U:Hid (∀c,Skip s (k+1) c→Skip s a c):=fun c h=>J.out c (.blank L z h)
    have ac:bt s k=9∨bt s k=10∨bt s k=13∨bt s k=32:=z
    clear z
    rcases ac with q|q|q|q
    all_goals
     go_wp2
     go_round
     case rel=>exact⟨k+1,by omega,by go_num,U.out⟩
     case measure=>simp[intOf];omega
   ·have e1:(bt s k==9)=false:=beq_eq_false_iff_ne.2 (fun h=>z (.inl h))
    have e2:(bt s k==10)=false:=beq_eq_false_iff_ne.2 (fun h=>z (.inr (.inl h)))
    have e3:(bt s k==13)=false:=beq_eq_false_iff_ne.2 (fun h=>z (.inr (.inr (.inl h))))
    have e4:(bt s k==32)=false:=beq_eq_false_iff_ne.2 (fun h=>z (.inr (.inr (.inr h))))
    by_cases H:zct s k
    ·obtain⟨I,s2,s3⟩:=H
     have X:Hid (zct s k):=⟨I,s2,s3⟩
     have q1:(bt s k !=47)=false:=by simp[I]
     have q2:(bt s (k+1) !=47)=false:=by simp[s3]
     have ae:=bt_nonneg s (k+1)
     have aa:=bt_le s (k+1)
     have ad:Hid (bt s k≠10):=by show bt s k≠10;rw[I];omega
     clear I s3 z
     go_wp2
     go_loop [1] (fun i=>∃m:Nat,k≤m∧m≤s.size∧i= .int .i64 m∧∀j,k≤j→j<m→zb0 (bt s j)=true) (fun i=>(s.size-intOf i).toNat)
     case atStart=>exact⟨k,Nat.le_refl _,hk,rfl,fun j h1 h2=>by omega⟩
     case round=>
      obtain⟨m,Y,M,rfl,Z⟩:=hrel
      have O:Hid (∀j,k≤j→j<m→zb0 (bt s j)=true):=Z
      clear Z
      by_cases ab:m<s.size
      ·have ag:=bt_nonneg s m
       have ah:=bt_le s m
       by_cases A:bt s m=10
       ·have af:k<m:=by
         rcases Nat.lt_or_ge k m with g|g
         ·exact g
         ·have e:m=k:=by omega
          rw[e] at A
          exact absurd A ad.out
        have N:Hid (za4 zb0 s k m):=⟨Y,M,O.out,fun _=>by simp[zb0,A]⟩
        have U:Hid (∀c,Skip s m c→Skip s a c):=fun c h=>J.out c (.comment L X.out N.out h)
        have r1:(bt s m !=10)=false:=by simp[A]
        clear A
        go_wp2
        go_round
        case rel=>exact⟨m,M,rfl,U.out⟩
        case measure=>simp[intOf];omega
       ·have U:Hid (∀j,k≤j→j<m+1→zb0 (bt s j)=true):=zfj O.out (by simp[zb0,A])
        have r1:(bt s m !=10)=true:=by simpa using A
        clear A
        go_wp2
        go_round
        case rel=>exact⟨m+1,by omega,by omega,by go_num,U.out⟩
        case measure=>simp[intOf];omega
      ·have N:Hid (za4 zb0 s k m):=⟨Y,M,O.out,fun h=>absurd h ab⟩
       have U:Hid (∀c,Skip s m c→Skip s a c):=fun c h=>J.out c (.comment L X.out N.out h)
       go_wp2
       go_round
       case rel=>exact⟨m,M,rfl,U.out⟩
       case measure=>simp[intOf];omega
    ·have N:Hid (Skip s a k):=J.out k (.stop L z H)
     clear z
     by_cases I:bt s k=47
     ·have q1:(bt s k !=47)=false:=by simp[I]
      by_cases s2:k+1<s.size
      ·have q2:(bt s (k+1) !=47)=true:=by simpa using fun h=>H ⟨I,s2,h⟩
       have ae:=bt_nonneg s (k+1)
       have aa:=bt_le s (k+1)
       clear I H
       go_wp2
       go_ret
       exact⟨k,rfl,N.out,rfl⟩
      ·clear I H
       go_wp2
       go_ret
       exact⟨k,rfl,N.out,rfl⟩
     ·have q1:(bt s k !=47)=true:=by simpa using I
      clear I H
      go_wp2
      go_ret
      exact⟨k,rfl,N.out,rfl⟩
  ·have N:Hid (Skip s a k):=J.out k (by rw[show k=s.size from by omega];exact .done)
   go_wp2
   go_ret
   exact⟨k,rfl,N.out,rfl⟩
end Go.Proofs.YtjdddblpfbmpaaaGreat
