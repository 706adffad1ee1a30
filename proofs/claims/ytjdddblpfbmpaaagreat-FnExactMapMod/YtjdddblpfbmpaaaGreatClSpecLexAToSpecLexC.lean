/-
  What spec's parts of Lex answer: l3Letter,l3Digit,l3Sign,l3Word,l3Num,l3Str,l3Skip: the walks.
  What spec's parts of Lex answer: l3Word,l3Num,l3Str,l3Skip: the walks.
  What spec's parts of Lex answer: l3Num,l3Skip: the walks.
-/
import Derived.Test.YtjdddblpfbmpaaaGreatProg
import Derived.WalkLawsBesides
import Derived.Test.YtjdddblpfbmpaaaGreatClAidToTreeMath
namespace Go.Proofs.YtjdddblpfbmpaaaGreat
set_option maxHeartbeats 3200000
open Go.RowKit Go.PlainAid
theorem zdN {c:Int} {j:Bool} (h: ¬((97≤c∧c≤122)∨(65≤c∧c≤90)∨c=95∨(j=true∧c=36))):za3 c j=false:=by
 rw[Bool.eq_false_iff]
 exact fun k=>h (zdH.1 k)
theorem ziA {c:Int} (h: ¬(48≤c∧c≤57)):zH c=false:=decide_eq_false h
theorem zcZ (c:Int) (j:Bool) (w:World) (Y:0≤c) (X:c≤255):
  Calls Tryz.prog 138 #[.int .u8 c,.bool j] w fun e w'=>e= .returned (.bool (za3 c j))∧w'=w:=by
 by_cases U:97≤c
 ·by_cases V:c≤122
  ·skip
   have z:decide (97≤c)=true:=decide_eq_true (by omega)
   have L:decide (c≤122)=true:=decide_eq_true (by omega)
   have h:Hid (za3 c j=true):=zdH.2 (by first|omega|(simp;omega))
   go_enter Tryz.func138,Tryz.ntmps138
   go_wp2
   go_ret
   exact⟨zk h.out.symm,rfl⟩
  ·skip
   cases j with
   |true=>
    have z:decide (97≤c)=true:=decide_eq_true (by omega)
    have L:decide (c≤122)=false:=decide_eq_false (by omega)
    have A:decide (65≤c)=true:=decide_eq_true (by omega)
    have J:decide (c≤90)=false:=decide_eq_false (by omega)
    have H:(c==95)=false:=beq_eq_false_iff_ne.2 (by omega)
    have I:(c==36)=false:=beq_eq_false_iff_ne.2 (by omega)
    have h:Hid (za3 c true=false):=zdN (by first|omega|(simp;omega))
    go_enter Tryz.func138,Tryz.ntmps138
    go_wp2
    go_ret
    exact⟨zk h.out.symm,rfl⟩
   |false=>
    have z:decide (97≤c)=true:=decide_eq_true (by omega)
    have L:decide (c≤122)=false:=decide_eq_false (by omega)
    have A:decide (65≤c)=true:=decide_eq_true (by omega)
    have J:decide (c≤90)=false:=decide_eq_false (by omega)
    have H:(c==95)=false:=beq_eq_false_iff_ne.2 (by omega)
    have I:(c==36)=false:=beq_eq_false_iff_ne.2 (by omega)
    have h:Hid (za3 c false=false):=zdN (by first|omega|(simp;omega))
    go_enter Tryz.func138,Tryz.ntmps138
    go_wp2
    go_ret
    exact⟨zk h.out.symm,rfl⟩
 ·by_cases Z:65≤c
  ·by_cases O:c≤90
   ·skip
    have z:decide (97≤c)=false:=decide_eq_false (by omega)
    have A:decide (65≤c)=true:=decide_eq_true (by omega)
    have J:decide (c≤90)=true:=decide_eq_true (by omega)
    have h:Hid (za3 c j=true):=zdH.2 (by first|omega|(simp;omega))
    go_enter Tryz.func138,Tryz.ntmps138
    go_wp2
    go_ret
    exact⟨zk h.out.symm,rfl⟩
   ·by_cases N:c=95
    ·skip
     have z:decide (97≤c)=false:=decide_eq_false (by omega)
     have A:decide (65≤c)=true:=decide_eq_true (by omega)
     have J:decide (c≤90)=false:=decide_eq_false (by omega)
     have H:(c==95)=true:=beq_iff_eq.2 (by omega)
     have h:Hid (za3 c j=true):=zdH.2 (by first|omega|(simp;omega))
     clear N
     go_enter Tryz.func138,Tryz.ntmps138
     go_wp2
     go_ret
     exact⟨zk h.out.symm,rfl⟩
    ·skip
     cases j with
     |true=>
      have z:decide (97≤c)=false:=decide_eq_false (by omega)
      have A:decide (65≤c)=true:=decide_eq_true (by omega)
      have J:decide (c≤90)=false:=decide_eq_false (by omega)
      have H:(c==95)=false:=beq_eq_false_iff_ne.2 (by omega)
      have I:(c==36)=false:=beq_eq_false_iff_ne.2 (by omega)
      have h:Hid (za3 c true=false):=zdN (by first|omega|(simp;omega))
      go_enter Tryz.func138,Tryz.ntmps138
      go_wp2
      go_ret
      exact⟨zk h.out.symm,rfl⟩
     |false=>
      have z:decide (97≤c)=false:=decide_eq_false (by omega)
      have A:decide (65≤c)=true:=decide_eq_true (by omega)
      have J:decide (c≤90)=false:=decide_eq_false (by omega)
      have H:(c==95)=false:=beq_eq_false_iff_ne.2 (by omega)
      have I:(c==36)=false:=beq_eq_false_iff_ne.2 (by omega)
      have h:Hid (za3 c false=false):=zdN (by first|omega|(simp;omega))
      go_enter Tryz.func138,Tryz.ntmps138
      go_wp2
      go_ret
      exact⟨zk h.out.symm,rfl⟩
  ·by_cases M:c=36
   ·skip
    cases j with
    |true=>
     have z:decide (97≤c)=false:=decide_eq_false (by omega)
     have A:decide (65≤c)=false:=decide_eq_false (by omega)
     have H:(c==95)=false:=beq_eq_false_iff_ne.2 (by omega)
     have I:(c==36)=true:=beq_iff_eq.2 (by omega)
     have h:Hid (za3 c true=true):=zdH.2 (by first|omega|(simp;omega))
     clear M
     go_enter Tryz.func138,Tryz.ntmps138
     go_wp2
     go_ret
     exact⟨zk h.out.symm,rfl⟩
    |false=>
     have z:decide (97≤c)=false:=decide_eq_false (by omega)
     have A:decide (65≤c)=false:=decide_eq_false (by omega)
     have H:(c==95)=false:=beq_eq_false_iff_ne.2 (by omega)
     have I:(c==36)=true:=beq_iff_eq.2 (by omega)
     have h:Hid (za3 c false=false):=zdN (by first|omega|(simp;omega))
     clear M
     go_enter Tryz.func138,Tryz.ntmps138
     go_wp2
     go_ret
     exact⟨zk h.out.symm,rfl⟩
   ·skip
    cases j with
    |true=>
     have z:decide (97≤c)=false:=decide_eq_false (by omega)
     have A:decide (65≤c)=false:=decide_eq_false (by omega)
     have H:(c==95)=false:=beq_eq_false_iff_ne.2 (by omega)
     have I:(c==36)=false:=beq_eq_false_iff_ne.2 (by omega)
     have h:Hid (za3 c true=false):=zdN (by first|omega|(simp;omega))
     go_enter Tryz.func138,Tryz.ntmps138
     go_wp2
     go_ret
     exact⟨zk h.out.symm,rfl⟩
    |false=>
     have z:decide (97≤c)=false:=decide_eq_false (by omega)
     have A:decide (65≤c)=false:=decide_eq_false (by omega)
     have H:(c==95)=false:=beq_eq_false_iff_ne.2 (by omega)
     have I:(c==36)=false:=beq_eq_false_iff_ne.2 (by omega)
     have h:Hid (za3 c false=false):=zdN (by first|omega|(simp;omega))
     go_enter Tryz.func138,Tryz.ntmps138
     go_wp2
     go_ret
     exact⟨zk h.out.symm,rfl⟩
theorem zcj (c:Int) (w:World) (J:0≤c) (I:c≤255):
  Calls Tryz.prog 140 #[.int .u8 c] w fun e w'=>e= .returned (.bool (zH c))∧w'=w:=by
 by_cases j:48≤c
 ·have H:decide (48≤c)=true:=decide_eq_true j
  by_cases z:c≤57
  ·have A:decide (c≤57)=true:=decide_eq_true z
   have h:Hid (zH c=true):=zcI.2 ⟨j,z⟩
   go_enter Tryz.func140,Tryz.ntmps140
   go_wp2
   go_ret
   exact⟨zk h.out.symm,rfl⟩
  ·have A:decide (c≤57)=false:=decide_eq_false z
   have h:Hid (zH c=false):=ziA (by omega)
   go_enter Tryz.func140,Tryz.ntmps140
   go_wp2
   go_ret
   exact⟨zk h.out.symm,rfl⟩
 ·have H:decide (48≤c)=false:=decide_eq_false j
  have h:Hid (zH c=false):=ziA (by omega)
  go_enter Tryz.func140,Tryz.ntmps140
  go_wp2
  go_ret
  exact⟨zk h.out.symm,rfl⟩
def signS:ByteArray:={data:=#[123,125,40,41,44,59,61,46,42,43,45]}
theorem zmt (k:Nat) (h:k<11):zbk (bt signS k):=by
 have: ∀k:Fin 11,zbk (bt signS k.val):=by decide
 exact this ⟨k,h⟩
theorem zmu (c:Int) (h:zbk c): ∃k,k<11∧bt signS k=c:=by
 rcases h with rfl|rfl|rfl|rfl|rfl|rfl|rfl|rfl|rfl|rfl|rfl
 ·exact⟨0,by decide⟩
 ·exact⟨1,by decide⟩
 ·exact⟨2,by decide⟩
 ·exact⟨3,by decide⟩
 ·exact⟨4,by decide⟩
 ·exact⟨5,by decide⟩
 ·exact⟨6,by decide⟩
 ·exact⟨7,by decide⟩
 ·exact⟨8,by decide⟩
 ·exact⟨9,by decide⟩
 ·exact⟨10,by decide⟩
def zeY (c:Int):Bool:=decide (zbk c)
theorem ziB (c:Int) (w:World):
  Calls Tryz.prog 143 #[.int .u8 c] w fun e w'=>e= .returned (.bool (zeY c))∧w'=w:=by
 have V:=get_bt signS
 have N:signS.size=11:=rfl
 obtain⟨S,I⟩: ∃S,signS=S:=⟨_,rfl⟩
 have O:Hid (signS=S):=I
 rw[I] at V N
 go_enter Tryz.func143,Tryz.ntmps143
 go_wp2
 rw[show ({data:=#[123,125,40,41,44,59,61,46,42,43,45]}:ByteArray)=S from I]
 clear I
 go_loop [4] (fun i=>∃k:Nat,k≤11∧i= .int .i64 k∧∀j,j<k→bt S j≠c) (fun i=>(11-intOf i).toNat)
 case atStart=>exact⟨0,by omega,rfl,fun j L=>absurd L (Nat.not_lt_zero j)⟩
 case round=>
  obtain⟨k,Y,rfl,A⟩:=hrel
  have H:Hid (∀j,j<k→bt S j≠c):=A
  clear A
  by_cases J:k<11
  ·by_cases z:bt S k=c
   ·have U:(bt S k==c)=true:=by simpa using z
    have M:Hid (zeY c=true):=decide_eq_true (by rw[←z,←O.out];exact zmt k J)
    clear z
    go_wp2
    go_ret
    exact⟨zk M.out.symm,rfl⟩
   ·have U:(bt S k==c)=false:=by simpa using z
    have X:Hid (∀j,j<k+1→bt S j≠c):=fun j L=>by
     by_cases e:j=k
     ·rw[e];exact z
     ·exact H.out j (by omega)
    clear z
    go_wp2
    go_round
    case rel=>exact⟨k+1,by omega,by go_num,X.out⟩
    case measure=>simp[intOf];omega
  ·have M:Hid (zeY c=false):=decide_eq_false (fun h=>by
    obtain⟨j,L,e⟩:=zmu c h
    rw[O.out] at e
    exact H.out j (by omega) e)
   go_wp2
   go_ret
   exact⟨zk M.out.symm,rfl⟩
theorem zmv {c:Int} {j:Bool} (h:za3 c j=true):zK j c=true:=by simp[zK,h]
theorem zmw {c:Int} {j:Bool} (h:zH c=true):zK j c=true:=by simp[zK,h]
theorem zmx {c:Int} {j:Bool} (h:za3 c j=false) (k:zH c=false):zK j c=false:=by simp[zK,h,k]
theorem zeZ {p:Int→Bool} {s:ByteArray} {a k:Nat} (h: ∀j,a≤j→j<k→p (bt s j)=true) (w:p (bt s k)=true): ∀j,a≤j→j<k+1→p (bt s j)=true:=by
 intro j z A
 by_cases e:j=k
 ·rw[e];exact w
 ·exact h j z (by omega)
theorem zmy (s:ByteArray) (a:Nat) (z:Bool) (w:World) (Y:a≤s.size) (hs:s.size≤4294967296):
  Calls Tryz.prog 139 #[.string s,.int .i64 a,.bool z] w fun e w'=>∃n:Nat,e= .returned (.int .i64 n)∧za4 (zK z) s a n∧w'=w:=by
 have hb:=get_bt s
 go_enter Tryz.func139,Tryz.ntmps139
 go_wp2
 go_loop [1] (fun i=>∃k:Nat,a≤k∧k≤s.size∧i= .int .i64 k∧∀j,a≤j→j<k→zK z (bt s j)=true) (fun i=>(s.size-intOf i).toNat)
 case atStart=>exact⟨a,Nat.le_refl _,Y,rfl,fun j h1 Z=>by omega⟩
 case round=>
  obtain⟨k,M,L,rfl,J⟩:=hrel
  have I:Hid (∀j,a≤j→j<k→zK z (bt s j)=true):=J
  clear J
  by_cases N:k<s.size
  ·have A:=bt_nonneg s k
   have H:=bt_le s k
   cases X:za3 (bt s k) z with
   |true=>
    have U:Hid (∀j,a≤j→j<k+1→zK z (bt s j)=true):=zeZ I.out (zmv X)
    go_wp2_with (first|(go_at_call 138;refine (zcZ _ _ _ A H).mono ?_;rintro e w' ⟨rfl,rfl⟩)|(go_at_call 140;refine (zcj _ _ A H).mono ?_;rintro e w' ⟨rfl,rfl⟩))
    go_round
    case rel=>exact⟨k+1,by omega,by omega,by go_num,U.out⟩
    case measure=>simp[intOf];omega
   |false=>
    cases V:zH (bt s k) with
    |true=>
     have U:Hid (∀j,a≤j→j<k+1→zK z (bt s j)=true):=zeZ I.out (zmw V)
     go_wp2_with (first|(go_at_call 138;refine (zcZ _ _ _ A H).mono ?_;rintro e w' ⟨rfl,rfl⟩)|(go_at_call 140;refine (zcj _ _ A H).mono ?_;rintro e w' ⟨rfl,rfl⟩))
     go_round
     case rel=>exact⟨k+1,by omega,by omega,by go_num,U.out⟩
     case measure=>simp[intOf];omega
    |false=>
     have O:Hid (za4 (zK z) s a k):=⟨M,L,I.out,fun _=>zmx X V⟩
     go_wp2_with (first|(go_at_call 138;refine (zcZ _ _ _ A H).mono ?_;rintro e w' ⟨rfl,rfl⟩)|(go_at_call 140;refine (zcj _ _ A H).mono ?_;rintro e w' ⟨rfl,rfl⟩))
     go_ret
     exact⟨k,rfl,O.out,rfl⟩
  ·have O:Hid (za4 (zK z) s a k):=⟨M,L,I.out,fun h=>absurd h N⟩
   go_wp2
   go_ret
   exact⟨k,rfl,O.out,rfl⟩
theorem zfN {s:ByteArray} {a k:Nat} (w: ∀j,a<j→j<k→zbB (bt s j)) (h:s.size≤k∨a+42≤k): ∀e,¬zby s a e:=by
 intro e ⟨h1,h2,h3,h4,_⟩
 exact absurd h4 (w (e-1) (by omega) (by omega)).2.2.1
theorem zfO {s:ByteArray} {a k:Nat} (A:a<k) (w: ∀j,a<j→j<k→zbB (bt s j)) (z:bt s k≠34) (h: ¬zbB (bt s k)): ∀e,¬zby s a e:=by
 intro e ⟨h1,h2,h3,h4,h5⟩
 rcases Nat.lt_trichotomy (e-1) k with g|g|g
 ·exact absurd h4 (w (e-1) (by omega) g).2.2.1
 ·rw[g] at h4;exact z h4
 ·exact h (h5 k A (by omega))
theorem zmz (s:ByteArray) (a:Nat) (w:World) (ha:a<s.size) (hs:s.size≤4294967296):
  Calls Tryz.prog 142 #[.string s,.int .i64 a] w fun e w'=>∃z:Int,e= .returned (.int .i64 z)∧((∃n:Nat,z=n∧zby s a n)∨(z= -1∧∀n,¬zby s a n))∧w'=w:=by
 have hb:=get_bt s
 go_enter Tryz.func142,Tryz.ntmps142
 go_wp2
 go_loop [5] (fun i=>∃k:Nat,a<k∧k≤s.size∧k≤a+42∧i= .int .i64 k∧∀j,a<j→j<k→zbB (bt s j)) (fun i=>(s.size-intOf i).toNat)
 case atStart=>exact⟨a+1,by omega,by omega,by omega,by go_num,fun j M O=>by omega⟩
 case round=>
  obtain⟨k,J,aa,ac,rfl,N⟩:=hrel
  have H:Hid (∀j,a<j→j<k→zbB (bt s j)):=N
  clear N
  by_cases Y:k<s.size
  ·have ab:=bt_nonneg s k
   have ad:=bt_le s k
   by_cases X:k≤a+41
   ·have Z:decide ((k:Int)≤(a:Int)+1+40)=true:=decide_eq_true (by omega)
    by_cases A:bt s k=34
    ·have HE:Hid (zby s a (k+1)):=⟨by omega,by omega,by omega,by rw[Nat.add_sub_cancel];exact A,fun j M O=>H.out j M (by omega)⟩
     have U:(bt s k==34)=true:=by simpa using A
     clear A
     go_wp2
     go_ret
     exact⟨(k:Int)+1,rfl,.inl ⟨k+1,by omega,HE.out⟩,rfl⟩
    ·have U:(bt s k==34)=false:=by simpa using A
     by_cases M:bt s k<32
     ·have I:Hid (∀e,¬zby s a e):=zfO J H.out A (fun h=>by have:=h.1;omega)
      have q1:decide (bt s k<32)=true:=decide_eq_true M
      clear A
      go_wp2
      go_ret
      exact⟨-1,rfl,.inr ⟨rfl,I.out⟩,rfl⟩
     ·have q1:decide (bt s k<32)=false:=decide_eq_false M
      by_cases O:126<bt s k
      ·have I:Hid (∀e,¬zby s a e):=zfO J H.out A (fun h=>by have:=h.2.1;omega)
       have q2:decide (126<bt s k)=true:=decide_eq_true O
       clear A
       go_wp2
       go_ret
       exact⟨-1,rfl,.inr ⟨rfl,I.out⟩,rfl⟩
      ·have q2:decide (126<bt s k)=false:=decide_eq_false O
       by_cases L:bt s k=92
       ·have I:Hid (∀e,¬zby s a e):=zfO J H.out A (fun h=>h.2.2.2 L)
        have V:(bt s k==92)=true:=by simpa using L
        clear A L U
        have U:(bt s k==34)=false:=beq_eq_false_iff_ne.2 (by have:=beq_iff_eq.1 V;omega)
        go_wp2
        go_ret
        exact⟨-1,rfl,.inr ⟨rfl,I.out⟩,rfl⟩
       ·have V:(bt s k==92)=false:=by simpa using L
        have HX:Hid (∀j,a<j→j<k+1→zbB (bt s j)):=fun j g1 g2=>by
         by_cases e:j=k
         ·rw[e];exact⟨by omega,by omega,A,L⟩
         ·exact H.out j g1 (by omega)
        clear A L
        go_wp2
        go_round
        case rel=>exact⟨k+1,by omega,by omega,by omega,by go_num,HX.out⟩
        case measure=>simp[intOf];omega
   ·have I:Hid (∀e,¬zby s a e):=zfN H.out (.inr (by omega))
    have Z:decide ((k:Int)≤(a:Int)+1+40)=false:=decide_eq_false (by omega)
    go_wp2
    go_ret
    exact⟨-1,rfl,.inr ⟨rfl,I.out⟩,rfl⟩
  ·have I:Hid (∀e,¬zby s a e):=zfN H.out (.inl (by omega))
   go_wp2
   go_ret
   exact⟨-1,rfl,.inr ⟨rfl,I.out⟩,rfl⟩
theorem ziC {s:ByteArray} {a k e:Nat} {z:Bool} {n:Int} (w: ∀j,a≤j→j<k→zH (bt s j)=true) (h:zaX s a z n e):k≤e∨e<k∧s.size≤e:=by
 obtain⟨⟨H,I,L,A⟩,J,_⟩:=h
 rcases Nat.lt_or_ge e k with g|g
 ·right
  refine⟨g,?_⟩
  rcases Nat.lt_or_ge e s.size with q|q
  ·have:=w e H g
   rw[A q] at this
   cases this
  ·exact q
 ·exact .inl g
theorem zm0 {s:ByteArray} {a k:Nat} {z:Bool} (I:a<k) (A:k<s.size) (w: ∀j,a≤j→j<k+1→zH (bt s j)=true) (H:bt s a=48): ∀n e,¬zaX s a z n e:=by
 intro n e h
 have J:=ziC w h
 rcases h.2.2.1 with g|g
 ·omega
 ·exact g H
theorem zm1 {s:ByteArray} {a k:Nat} {z:Bool} (H:a≤k) (A:k<s.size) (w: ∀j,a≤j→j<k+1→zH (bt s j)=true) (O:1000000<zbC s a (k+1-a)): ∀n e,¬zaX s a z n e:=by
 intro n e h
 have M:=ziC w h
 have J:=zio (s:=s) (a:=a) (k+1-a) (e-a) (fun j I=>(zcI.1 (h.1.2.2.1 (a+j) (by omega) (by omega))).1) (by omega)
 have N:=h.2.2.2.1
 have L:=h.2.2.2.2.1
 omega
theorem zm2 {s:ByteArray} {a k:Nat} {j:Bool} (H:za4 zH s a k) (z:k<s.size) (A:za3 (bt s k) j=true): ∀n e,¬zaX s a j n e:=by
 intro n e h
 have:=zeP H h.1
 subst this
 have w:=h.2.2.2.2.2 z
 rw[A] at w
 cases w
theorem zm3 (s:ByteArray) (a:Nat) (A:Bool) (w:World) (ha:a<s.size) (ab:zH (bt s a)=true) (hs:s.size≤4294967296):
  Calls Tryz.prog 141 #[.string s,.int .i64 a,.bool A] w fun e w'=>∃n z:Int,e= .returned (.tuple #[.int .i64 n,.int .i64 z])∧((∃m:Nat,z=m∧zaX s a A n m)∨(n=0∧z= -1∧∀n m,¬zaX s a A n m))∧w'=w:=by
 have hb:=get_bt s
 have ac:Hid (zH (bt s a)=true):=ab
 clear ab
 go_enter Tryz.func141,Tryz.ntmps141
 go_wp2
 go_loop [8,9] (fun n i=>∃(k:Nat) (v:Int),a≤k∧k≤s.size∧i= .int .i64 k∧n= .int .i64 v∧v=zbC s a (k-a)∧0≤v∧v≤1000000∧(k≤a+1∨bt s a≠48)∧∀j,a≤j→j<k→zH (bt s j)=true) (fun _ i=>(s.size-intOf i).toNat)
 case atStart=>exact⟨a,0,Nat.le_refl _,by omega,rfl,rfl,by rw[Nat.sub_self];rfl,by omega,by omega,.inl (by omega),fun j h1 h2=>by omega⟩
 case round=>
  obtain⟨k,v,N,X,rfl,rfl,hv,ag,Y,hz,aa⟩:=hrel
  have O:Hid (∀j,a≤j→j<k→zH (bt s j)=true):=aa
  have HV:Hid (v=zbC s a (k-a)):=hv
  have HZ:Hid (k≤a+1∨bt s a≠48):=hz
  clear aa hv hz
  by_cases M:k<s.size
  ·have H:=bt_nonneg s k
   have I:=bt_le s k
   cases V:zH (bt s k) with
   |true=>
    have ad:=zcI.1 V
    obtain⟨af,ae⟩:=ad
    have HX:Hid (∀j,a≤j→j<k+1→zH (bt s j)=true):=zeZ O.out V
    by_cases J:a<k∧bt s a=48
    ·obtain⟨z1,z2⟩:=J
     have U:Hid (∀n e,¬zaX s a A n e):=zm0 z1 M HX.out z2
     have q1:(bt s a==48)=true:=by simpa using z2
     clear z2
     go_wp2_with (first|(go_at_call 140;refine (zcj _ _ H I).mono ?_;rintro e w' ⟨rfl,rfl⟩))
     go_ret2
     exact⟨0,-1,rfl,.inr ⟨rfl,rfl,U.out⟩,rfl⟩
    ·have HD:Hid (zbC s a (k+1-a)=v*10+(bt s k-48)):=by
      show zbC s a (k+1-a)=_
      rw[show k+1-a=(k-a)+1 from by omega,zbC,←HV.out,show a+(k-a)=k from by omega]
     have Z:Hid (k+1≤a+1∨bt s a≠48):=by
      rcases Nat.lt_or_ge a k with g|g
      ·exact .inr fun h=>J ⟨g,h⟩
      ·exact .inl (by omega)
     by_cases hg:1000000<v*10+(bt s k-48)
     ·have U:Hid (∀n e,¬zaX s a A n e):=zm1 N M HX.out (by rw[HD.out];exact hg)
      by_cases L:a<k
      ·have q1:(bt s a==48)=false:=beq_eq_false_iff_ne.2 (fun h=>J ⟨L,h⟩)
       clear J
       go_wp2_with (first|(go_at_call 140;refine (zcj _ _ H I).mono ?_;rintro e w' ⟨rfl,rfl⟩))
       go_ret2
       exact⟨0,-1,rfl,.inr ⟨rfl,rfl,U.out⟩,rfl⟩
      ·clear J
       go_wp2_with (first|(go_at_call 140;refine (zcj _ _ H I).mono ?_;rintro e w' ⟨rfl,rfl⟩))
       go_ret2
       exact⟨0,-1,rfl,.inr ⟨rfl,rfl,U.out⟩,rfl⟩
     ·by_cases L:a<k
      ·have q1:(bt s a==48)=false:=beq_eq_false_iff_ne.2 (fun h=>J ⟨L,h⟩)
       clear J
       go_wp2_with (first|(go_at_call 140;refine (zcj _ _ H I).mono ?_;rintro e w' ⟨rfl,rfl⟩))
       go_round
       case rel=>exact⟨k+1,v*10+(bt s k-48),by omega,by omega,by go_num,by go_num,HD.out.symm,by omega,by omega,Z.out,HX.out⟩
       case measure=>simp[intOf];omega
      ·clear J
       go_wp2_with (first|(go_at_call 140;refine (zcj _ _ H I).mono ?_;rintro e w' ⟨rfl,rfl⟩))
       go_round
       case rel=>exact⟨k+1,v*10+(bt s k-48),by omega,by omega,by go_num,by go_num,HD.out.symm,by omega,by omega,Z.out,HX.out⟩
       case measure=>simp[intOf];omega
   |false=>
    have HR:Hid (za4 zH s a k):=⟨N,X,O.out,fun _=>V⟩
    have L:a<k:=by
     rcases Nat.lt_or_ge a k with g|g
     ·exact g
     ·have e:k=a:=by omega
      rw[e,ac.out] at V
      cases V
    cases hl:za3 (bt s k) A with
    |true=>
     have U:Hid (∀n e,¬zaX s a A n e):=zm2 HR.out M hl
     go_wp2_with (first|(go_at_call 138;refine (zcZ _ _ _ H I).mono ?_;rintro e w' ⟨rfl,rfl⟩)|(go_at_call 140;refine (zcj _ _ H I).mono ?_;rintro e w' ⟨rfl,rfl⟩))
     go_ret2
     exact⟨0,-1,rfl,.inr ⟨rfl,rfl,U.out⟩,rfl⟩
    |false=>
     have HA:Hid (zaX s a A v k):=⟨HR.out,L,HZ.out.imp (fun g=>by omega) id,HV.out,Y,fun _=>hl⟩
     go_wp2_with (first|(go_at_call 138;refine (zcZ _ _ _ H I).mono ?_;rintro e w' ⟨rfl,rfl⟩)|(go_at_call 140;refine (zcj _ _ H I).mono ?_;rintro e w' ⟨rfl,rfl⟩))
     go_ret2
     exact⟨v,k,rfl,.inl ⟨k,rfl,HA.out⟩,rfl⟩
  ·have L:a<k:=by omega
   have HA:Hid (zaX s a A v k):=⟨⟨N,X,O.out,fun h=>absurd h M⟩,L,HZ.out.imp (fun g=>by omega) id,HV.out,Y,fun h=>absurd h M⟩
   go_wp2
   go_ret2
   exact⟨v,k,rfl,.inl ⟨k,rfl,HA.out⟩,rfl⟩
theorem ziD (s:ByteArray) (a:Nat) (w:World) (ha:a≤s.size) (hs:s.size≤4294967296):
  Calls Tryz.prog 103 #[.string s,.int .i64 a] w fun e w'=>∃n:Nat,e= .returned (.int .i64 n)∧Skip s a n∧w'=w:=by
 have hb:=get_bt s
 go_enter Tryz.func103,Tryz.ntmps103
 go_wp2
 go_loop [1,5] (fun i _=>∃k:Nat,k≤s.size∧i= .int .i64 k∧∀c,Skip s k c→Skip s a c) (fun i _=>(s.size-intOf i).toNat)
 case atStart=>exact⟨a,ha,rfl,fun c h=>h⟩
 case round=>
  obtain⟨k,hk,rfl,V⟩:=hrel
  have J:Hid (∀c,Skip s k c→Skip s a c):=V
  clear V
  by_cases L:k<s.size
  ·have ai:=bt_nonneg s k
   have aj:=bt_le s k
   by_cases z:zc8 (bt s k)
   ·have U:Hid (∀c,Skip s (k+1) c→Skip s a c):=fun c h=>J.out c (.blank L z h)
    have ac:bt s k=9∨bt s k=10∨bt s k=13∨bt s k=32:=z
    clear z
    rcases ac with q|q|q|q
    all_goals
     go_wp2
     go_round
     case rel=>exact⟨k+1,by omega,by go_num,U.out⟩
     case measure=>simp[intOf];omega
   ·have e1:(bt s k==9)=false:=beq_eq_false_iff_ne.2 (fun h=>z (.inl h))
    have e2:(bt s k==10)=false:=beq_eq_false_iff_ne.2 (fun h=>z (.inr (.inl h)))
    have e3:(bt s k==13)=false:=beq_eq_false_iff_ne.2 (fun h=>z (.inr (.inr (.inl h))))
    have e4:(bt s k==32)=false:=beq_eq_false_iff_ne.2 (fun h=>z (.inr (.inr (.inr h))))
    by_cases H:zcs s k
    ·obtain⟨I,s2,s3⟩:=H
     have X:Hid (zcs s k):=⟨I,s2,s3⟩
     have q1:(bt s k !=47)=false:=by simp[I]
     have q2:(bt s (k+1) !=47)=false:=by simp[s3]
     have ae:=bt_nonneg s (k+1)
     have aa:=bt_le s (k+1)
     have ad:Hid (bt s k≠10):=by show bt s k≠10;rw[I];omega
     clear I s3 z
     go_wp2
     go_loop [1] (fun i=>∃m:Nat,k≤m∧m≤s.size∧i= .int .i64 m∧∀j,k≤j→j<m→zbx (bt s j)=true) (fun i=>(s.size-intOf i).toNat)
     case atStart=>exact⟨k,Nat.le_refl _,hk,rfl,fun j h1 h2=>by omega⟩
     case round=>
      obtain⟨m,Y,M,rfl,Z⟩:=hrel
      have O:Hid (∀j,k≤j→j<m→zbx (bt s j)=true):=Z
      clear Z
      by_cases ab:m<s.size
      ·have ag:=bt_nonneg s m
       have ah:=bt_le s m
       by_cases A:bt s m=10
       ·have af:k<m:=by
         rcases Nat.lt_or_ge k m with g|g
         ·exact g
         ·have e:m=k:=by omega
          rw[e] at A
          exact absurd A ad.out
        have N:Hid (za4 zbx s k m):=⟨Y,M,O.out,fun _=>by simp[zbx,A]⟩
        have U:Hid (∀c,Skip s m c→Skip s a c):=fun c h=>J.out c (.comment L X.out N.out h)
        have r1:(bt s m !=10)=false:=by simp[A]
        clear A
        go_wp2
        go_round
        case rel=>exact⟨m,M,rfl,U.out⟩
        case measure=>simp[intOf];omega
       ·have U:Hid (∀j,k≤j→j<m+1→zbx (bt s j)=true):=zeZ O.out (by simp[zbx,A])
        have r1:(bt s m !=10)=true:=by simpa using A
        clear A
        go_wp2
        go_round
        case rel=>exact⟨m+1,by omega,by omega,by go_num,U.out⟩
        case measure=>simp[intOf];omega
      ·have N:Hid (za4 zbx s k m):=⟨Y,M,O.out,fun h=>absurd h ab⟩
       have U:Hid (∀c,Skip s m c→Skip s a c):=fun c h=>J.out c (.comment L X.out N.out h)
       go_wp2
       go_round
       case rel=>exact⟨m,M,rfl,U.out⟩
       case measure=>simp[intOf];omega
    ·have N:Hid (Skip s a k):=J.out k (.stop L z H)
     clear z
     by_cases I:bt s k=47
     ·have q1:(bt s k !=47)=false:=by simp[I]
      by_cases s2:k+1<s.size
      ·have q2:(bt s (k+1) !=47)=true:=by simpa using fun h=>H ⟨I,s2,h⟩
       have ae:=bt_nonneg s (k+1)
       have aa:=bt_le s (k+1)
       clear I H
       go_wp2
       go_ret
       exact⟨k,rfl,N.out,rfl⟩
      ·clear I H
       go_wp2
       go_ret
       exact⟨k,rfl,N.out,rfl⟩
     ·have q1:(bt s k !=47)=true:=by simpa using I
      clear I H
      go_wp2
      go_ret
      exact⟨k,rfl,N.out,rfl⟩
  ·have N:Hid (Skip s a k):=J.out k (by rw[show k=s.size from by omega];exact .done)
   go_wp2
   go_ret
   exact⟨k,rfl,N.out,rfl⟩
end Go.Proofs.YtjdddblpfbmpaaaGreat
