/-
  What spec's parts of Lex answer: l3Letter,l3Digit,l3Sign,l3Word,l3Num,l3Str,l3Skip: the walks.
  What spec's parts of Lex answer: l3Word,l3Num,l3Str,l3Skip: the walks.
  What spec's parts of Lex answer: l3Num,l3Skip: the walks.
-/
import Derived.Test.YticdggnnpjachaaGreatProg
import Derived.WalkLawsBesides
import Derived.Test.YticdggnnpjachaaGreatCcBytesToTreeMath
namespace Go.Proofs.YticdggnnpjachaaGreat
set_option maxHeartbeats 3200000
open Go.RowKit Go.PlainAid
theorem zdh {c:Int} {j:Bool} (h: ¬((97≤c∧c≤122)∨(65≤c∧c≤90)∨c=95∨(j=true∧c=36))):zat c j=false:=by
 rw[Bool.eq_false_iff]
 exact fun k=>h (zda.1 k)
theorem zgZ {c:Int} (h: ¬(48≤c∧c≤57)):zD c=false:=decide_eq_false h
theorem zc0 (c:Int) (j:Bool) (w:World) (M:0≤c) (O:c≤255):
  Calls Tryz.prog 124 #[.int .u8 c,.bool j] w fun e H=>e= .returned (.bool (zat c j))∧H=w:=by
 by_cases L:97≤c
 ·by_cases K:c≤122
  ·skip
   have n:decide (97≤c)=true:=decide_eq_true (by omega)
   have D:decide (c≤122)=true:=decide_eq_true (by omega)
   have h:Hid (zat c j=true):=zda.2 (by first|omega|(simp;omega))
   go_enter Tryz.func124,Tryz.ntmps124
   go_wp2
   go_ret
   exact⟨zl h.out.symm,rfl⟩
  ·skip
   cases j with
   |true=>
    have n:decide (97≤c)=true:=decide_eq_true (by omega)
    have D:decide (c≤122)=false:=decide_eq_false (by omega)
    have o:decide (65≤c)=true:=decide_eq_true (by omega)
    have A:decide (c≤90)=false:=decide_eq_false (by omega)
    have q:(c==95)=false:=beq_eq_false_iff_ne.2 (by omega)
    have z:(c==36)=false:=beq_eq_false_iff_ne.2 (by omega)
    have h:Hid (zat c true=false):=zdh (by first|omega|(simp;omega))
    go_enter Tryz.func124,Tryz.ntmps124
    go_wp2
    go_ret
    exact⟨zl h.out.symm,rfl⟩
   |false=>
    have n:decide (97≤c)=true:=decide_eq_true (by omega)
    have D:decide (c≤122)=false:=decide_eq_false (by omega)
    have o:decide (65≤c)=true:=decide_eq_true (by omega)
    have A:decide (c≤90)=false:=decide_eq_false (by omega)
    have q:(c==95)=false:=beq_eq_false_iff_ne.2 (by omega)
    have z:(c==36)=false:=beq_eq_false_iff_ne.2 (by omega)
    have h:Hid (zat c false=false):=zdh (by first|omega|(simp;omega))
    go_enter Tryz.func124,Tryz.ntmps124
    go_wp2
    go_ret
    exact⟨zl h.out.symm,rfl⟩
 ·by_cases N:65≤c
  ·by_cases J:c≤90
   ·skip
    have n:decide (97≤c)=false:=decide_eq_false (by omega)
    have o:decide (65≤c)=true:=decide_eq_true (by omega)
    have A:decide (c≤90)=true:=decide_eq_true (by omega)
    have h:Hid (zat c j=true):=zda.2 (by first|omega|(simp;omega))
    go_enter Tryz.func124,Tryz.ntmps124
    go_wp2
    go_ret
    exact⟨zl h.out.symm,rfl⟩
   ·by_cases I:c=95
    ·skip
     have n:decide (97≤c)=false:=decide_eq_false (by omega)
     have o:decide (65≤c)=true:=decide_eq_true (by omega)
     have A:decide (c≤90)=false:=decide_eq_false (by omega)
     have q:(c==95)=true:=beq_iff_eq.2 (by omega)
     have h:Hid (zat c j=true):=zda.2 (by first|omega|(simp;omega))
     clear I
     go_enter Tryz.func124,Tryz.ntmps124
     go_wp2
     go_ret
     exact⟨zl h.out.symm,rfl⟩
    ·skip
     cases j with
     |true=>
      have n:decide (97≤c)=false:=decide_eq_false (by omega)
      have o:decide (65≤c)=true:=decide_eq_true (by omega)
      have A:decide (c≤90)=false:=decide_eq_false (by omega)
      have q:(c==95)=false:=beq_eq_false_iff_ne.2 (by omega)
      have z:(c==36)=false:=beq_eq_false_iff_ne.2 (by omega)
      have h:Hid (zat c true=false):=zdh (by first|omega|(simp;omega))
      go_enter Tryz.func124,Tryz.ntmps124
      go_wp2
      go_ret
      exact⟨zl h.out.symm,rfl⟩
     |false=>
      have n:decide (97≤c)=false:=decide_eq_false (by omega)
      have o:decide (65≤c)=true:=decide_eq_true (by omega)
      have A:decide (c≤90)=false:=decide_eq_false (by omega)
      have q:(c==95)=false:=beq_eq_false_iff_ne.2 (by omega)
      have z:(c==36)=false:=beq_eq_false_iff_ne.2 (by omega)
      have h:Hid (zat c false=false):=zdh (by first|omega|(simp;omega))
      go_enter Tryz.func124,Tryz.ntmps124
      go_wp2
      go_ret
      exact⟨zl h.out.symm,rfl⟩
  ·by_cases E:c=36
   ·skip
    cases j with
    |true=>
     have n:decide (97≤c)=false:=decide_eq_false (by omega)
     have o:decide (65≤c)=false:=decide_eq_false (by omega)
     have q:(c==95)=false:=beq_eq_false_iff_ne.2 (by omega)
     have z:(c==36)=true:=beq_iff_eq.2 (by omega)
     have h:Hid (zat c true=true):=zda.2 (by first|omega|(simp;omega))
     clear E
     go_enter Tryz.func124,Tryz.ntmps124
     go_wp2
     go_ret
     exact⟨zl h.out.symm,rfl⟩
    |false=>
     have n:decide (97≤c)=false:=decide_eq_false (by omega)
     have o:decide (65≤c)=false:=decide_eq_false (by omega)
     have q:(c==95)=false:=beq_eq_false_iff_ne.2 (by omega)
     have z:(c==36)=true:=beq_iff_eq.2 (by omega)
     have h:Hid (zat c false=false):=zdh (by first|omega|(simp;omega))
     clear E
     go_enter Tryz.func124,Tryz.ntmps124
     go_wp2
     go_ret
     exact⟨zl h.out.symm,rfl⟩
   ·skip
    cases j with
    |true=>
     have n:decide (97≤c)=false:=decide_eq_false (by omega)
     have o:decide (65≤c)=false:=decide_eq_false (by omega)
     have q:(c==95)=false:=beq_eq_false_iff_ne.2 (by omega)
     have z:(c==36)=false:=beq_eq_false_iff_ne.2 (by omega)
     have h:Hid (zat c true=false):=zdh (by first|omega|(simp;omega))
     go_enter Tryz.func124,Tryz.ntmps124
     go_wp2
     go_ret
     exact⟨zl h.out.symm,rfl⟩
    |false=>
     have n:decide (97≤c)=false:=decide_eq_false (by omega)
     have o:decide (65≤c)=false:=decide_eq_false (by omega)
     have q:(c==95)=false:=beq_eq_false_iff_ne.2 (by omega)
     have z:(c==36)=false:=beq_eq_false_iff_ne.2 (by omega)
     have h:Hid (zat c false=false):=zdh (by first|omega|(simp;omega))
     go_enter Tryz.func124,Tryz.ntmps124
     go_wp2
     go_ret
     exact⟨zl h.out.symm,rfl⟩
theorem zbH (c:Int) (w:World) (A:0≤c) (D:c≤255):
  Calls Tryz.prog 126 #[.int .u8 c] w fun e o=>e= .returned (.bool (zD c))∧o=w:=by
 by_cases n:48≤c
 ·have z:decide (48≤c)=true:=decide_eq_true n
  by_cases j:c≤57
  ·have q:decide (c≤57)=true:=decide_eq_true j
   have h:Hid (zD c=true):=zck.2 ⟨n,j⟩
   go_enter Tryz.func126,Tryz.ntmps126
   go_wp2
   go_ret
   exact⟨zl h.out.symm,rfl⟩
  ·have q:decide (c≤57)=false:=decide_eq_false j
   have h:Hid (zD c=false):=zgZ (by omega)
   go_enter Tryz.func126,Tryz.ntmps126
   go_wp2
   go_ret
   exact⟨zl h.out.symm,rfl⟩
 ·have z:decide (48≤c)=false:=decide_eq_false n
  have h:Hid (zD c=false):=zgZ (by omega)
  go_enter Tryz.func126,Tryz.ntmps126
  go_wp2
  go_ret
  exact⟨zl h.out.symm,rfl⟩
def signS:ByteArray:={data:=#[123,125,40,41,44,59,61,46,42,43,45]}
theorem zkb (k:Nat) (h:k<11):zaS (bt signS k):=by
 have: ∀k:Fin 11,zaS (bt signS k.val):=by decide
 exact this ⟨k,h⟩
theorem zkc (c:Int) (h:zaS c): ∃k,k<11∧bt signS k=c:=by
 rcases h with rfl|rfl|rfl|rfl|rfl|rfl|rfl|rfl|rfl|rfl|rfl
 ·exact⟨0,by decide⟩
 ·exact⟨1,by decide⟩
 ·exact⟨2,by decide⟩
 ·exact⟨3,by decide⟩
 ·exact⟨4,by decide⟩
 ·exact⟨5,by decide⟩
 ·exact⟨6,by decide⟩
 ·exact⟨7,by decide⟩
 ·exact⟨8,by decide⟩
 ·exact⟨9,by decide⟩
 ·exact⟨10,by decide⟩
def zel (c:Int):Bool:=decide (zaS c)
theorem zha (c:Int) (w:World):
  Calls Tryz.prog 129 #[.int .u8 c] w fun e J=>e= .returned (.bool (zel c))∧J=w:=by
 have K:=get_bt signS
 have D:signS.size=11:=rfl
 obtain⟨S,z⟩: ∃S,signS=S:=⟨_,rfl⟩
 have I:Hid (signS=S):=z
 rw[z] at K D
 go_enter Tryz.func129,Tryz.ntmps129
 go_wp2
 rw[show ({data:=#[123,125,40,41,44,59,61,46,42,43,45]}:ByteArray)=S from z]
 clear z
 go_loop [4] (fun i=>∃k:Nat,k≤11∧i= .int .i64 k∧∀j,j<k→bt S j≠c) (fun i=>(11-intOf i).toNat)
 case atStart=>exact⟨0,by omega,rfl,fun j E=>absurd E (Nat.not_lt_zero j)⟩
 case round=>
  obtain⟨k,N,rfl,o⟩:=hrel
  have q:Hid (∀j,j<k→bt S j≠c):=o
  clear o
  by_cases H:k<11
  ·by_cases n:bt S k=c
   ·have L:(bt S k==c)=true:=by simpa using n
    have A:Hid (zel c=true):=decide_eq_true (by rw[←n,←I.out];exact zkb k H)
    clear n
    go_wp2
    go_ret
    exact⟨zl A.out.symm,rfl⟩
   ·have L:(bt S k==c)=false:=by simpa using n
    have M:Hid (∀j,j<k+1→bt S j≠c):=fun j E=>by
     by_cases e:j=k
     ·rw[e];exact n
     ·exact q.out j (by omega)
    clear n
    go_wp2
    go_round
    case rel=>exact⟨k+1,by omega,by go_num,M.out⟩
    case measure=>simp[intOf];omega
  ·have A:Hid (zel c=false):=decide_eq_false (fun h=>by
    obtain⟨j,E,e⟩:=zkc c h
    rw[I.out] at e
    exact q.out j (by omega) e)
   go_wp2
   go_ret
   exact⟨zl A.out.symm,rfl⟩
theorem zkd {c:Int} {j:Bool} (h:zat c j=true):zE j c=true:=by simp[zE,h]
theorem zke {c:Int} {j:Bool} (h:zD c=true):zE j c=true:=by simp[zE,h]
theorem zkf {c:Int} {j:Bool} (h:zat c j=false) (k:zD c=false):zE j c=false:=by simp[zE,h,k]
theorem zem {p:Int→Bool} {s:ByteArray} {a k:Nat} (h: ∀j,a≤j→j<k→p (bt s j)=true) (o:p (bt s k)=true): ∀j,a≤j→j<k+1→p (bt s j)=true:=by
 intro j n q
 by_cases e:j=k
 ·rw[e];exact o
 ·exact h j n (by omega)
theorem zkg (s:ByteArray) (a:Nat) (o:Bool) (w:World) (O:a≤s.size) (U:s.size≤4294967296):
  Calls Tryz.prog 125 #[.string s,.int .i64 a,.bool o] w fun e D=>∃n:Nat,e= .returned (.int .i64 n)∧zau (zE o) s a n∧D=w:=by
 have Y:=get_bt s
 go_enter Tryz.func125,Tryz.ntmps125
 go_wp2
 go_loop [1] (fun i=>∃k:Nat,a≤k∧k≤s.size∧i= .int .i64 k∧∀j,a≤j→j<k→zE o (bt s j)=true) (fun i=>(s.size-intOf i).toNat)
 case atStart=>exact⟨a,Nat.le_refl _,O,rfl,fun j X V=>by omega⟩
 case round=>
  obtain⟨k,E,H,rfl,I⟩:=hrel
  have A:Hid (∀j,a≤j→j<k→zE o (bt s j)=true):=I
  clear I
  by_cases L:k<s.size
  ·have q:=bt_nonneg s k
   have z:=bt_le s k
   cases N:zat (bt s k) o with
   |true=>
    have J:Hid (∀j,a≤j→j<k+1→zE o (bt s j)=true):=zem A.out (zkd N)
    go_wp2_with (first|(go_at_call 124;refine (zc0 _ _ _ q z).mono ?_;rintro e D ⟨rfl,rfl⟩)|(go_at_call 126;refine (zbH _ _ q z).mono ?_;rintro e D ⟨rfl,rfl⟩))
    go_round
    case rel=>exact⟨k+1,by omega,by omega,by go_num,J.out⟩
    case measure=>simp[intOf];omega
   |false=>
    cases M:zD (bt s k) with
    |true=>
     have J:Hid (∀j,a≤j→j<k+1→zE o (bt s j)=true):=zem A.out (zke M)
     go_wp2_with (first|(go_at_call 124;refine (zc0 _ _ _ q z).mono ?_;rintro e D ⟨rfl,rfl⟩)|(go_at_call 126;refine (zbH _ _ q z).mono ?_;rintro e D ⟨rfl,rfl⟩))
     go_round
     case rel=>exact⟨k+1,by omega,by omega,by go_num,J.out⟩
     case measure=>simp[intOf];omega
    |false=>
     have K:Hid (zau (zE o) s a k):=⟨E,H,A.out,fun _=>zkf N M⟩
     go_wp2_with (first|(go_at_call 124;refine (zc0 _ _ _ q z).mono ?_;rintro e D ⟨rfl,rfl⟩)|(go_at_call 126;refine (zbH _ _ q z).mono ?_;rintro e D ⟨rfl,rfl⟩))
     go_ret
     exact⟨k,rfl,K.out,rfl⟩
  ·have K:Hid (zau (zE o) s a k):=⟨E,H,A.out,fun h=>absurd h L⟩
   go_wp2
   go_ret
   exact⟨k,rfl,K.out,rfl⟩
theorem zeS {s:ByteArray} {a k:Nat} (n: ∀j,a<j→j<k→zbn (bt s j)) (h:s.size≤k∨a+42≤k): ∀e,¬zbc s a e:=by
 intro e ⟨h1,h2,h3,h4,_⟩
 exact absurd h4 (n (e-1) (by omega) (by omega)).2.2.1
theorem zeT {s:ByteArray} {a k:Nat} (q:a<k) (o: ∀j,a<j→j<k→zbn (bt s j)) (n:bt s k≠34) (h: ¬zbn (bt s k)): ∀e,¬zbc s a e:=by
 intro e ⟨h1,h2,h3,h4,h5⟩
 rcases Nat.lt_trichotomy (e-1) k with g|g|g
 ·exact absurd h4 (o (e-1) (by omega) g).2.2.1
 ·rw[g] at h4;exact n h4
 ·exact h (h5 k q (by omega))
theorem zkh (s:ByteArray) (a:Nat) (w:World) (ha:a<s.size) (hs:s.size≤4294967296):
  Calls Tryz.prog 128 #[.string s,.int .i64 a] w fun e Z=>∃z:Int,e= .returned (.int .i64 z)∧((∃n:Nat,z=n∧zbc s a n)∨(z= -1∧∀n,¬zbc s a n))∧Z=w:=by
 have hb:=get_bt s
 go_enter Tryz.func128,Tryz.ntmps128
 go_wp2
 go_loop [5] (fun i=>∃k:Nat,a<k∧k≤s.size∧k≤a+42∧i= .int .i64 k∧∀j,a<j→j<k→zbn (bt s j)) (fun i=>(s.size-intOf i).toNat)
 case atStart=>exact⟨a+1,by omega,by omega,by omega,by go_num,fun j H J=>by omega⟩
 case round=>
  obtain⟨k,D,ab,aa,rfl,I⟩:=hrel
  have q:Hid (∀j,a<j→j<k→zbn (bt s j)):=I
  clear I
  by_cases ac:k<s.size
  ·have U:=bt_nonneg s k
   have ad:=bt_le s k
   by_cases L:k≤a+41
   ·have X:decide ((k:Int)≤(a:Int)+1+40)=true:=decide_eq_true (by omega)
    by_cases o:bt s k=34
    ·have HE:Hid (zbc s a (k+1)):=⟨by omega,by omega,by omega,by rw[Nat.add_sub_cancel];exact o,fun j H J=>q.out j H (by omega)⟩
     have K:(bt s k==34)=true:=by simpa using o
     clear o
     go_wp2
     go_ret
     exact⟨(k:Int)+1,rfl,.inl ⟨k+1,by omega,HE.out⟩,rfl⟩
    ·have K:(bt s k==34)=false:=by simpa using o
     by_cases H:bt s k<32
     ·have A:Hid (∀e,¬zbc s a e):=zeT D q.out o (fun h=>by have:=h.1;omega)
      have V:decide (bt s k<32)=true:=decide_eq_true H
      clear o
      go_wp2
      go_ret
      exact⟨-1,rfl,.inr ⟨rfl,A.out⟩,rfl⟩
     ·have V:decide (bt s k<32)=false:=decide_eq_false H
      by_cases J:126<bt s k
      ·have A:Hid (∀e,¬zbc s a e):=zeT D q.out o (fun h=>by have:=h.2.1;omega)
       have N:decide (126<bt s k)=true:=decide_eq_true J
       clear o
       go_wp2
       go_ret
       exact⟨-1,rfl,.inr ⟨rfl,A.out⟩,rfl⟩
      ·have N:decide (126<bt s k)=false:=decide_eq_false J
       by_cases E:bt s k=92
       ·have A:Hid (∀e,¬zbc s a e):=zeT D q.out o (fun h=>h.2.2.2 E)
        have M:(bt s k==92)=true:=by simpa using E
        clear o E K
        have K:(bt s k==34)=false:=beq_eq_false_iff_ne.2 (by have:=beq_iff_eq.1 M;omega)
        go_wp2
        go_ret
        exact⟨-1,rfl,.inr ⟨rfl,A.out⟩,rfl⟩
       ·have M:(bt s k==92)=false:=by simpa using E
        have O:Hid (∀j,a<j→j<k+1→zbn (bt s j)):=fun j Y g2=>by
         by_cases e:j=k
         ·rw[e];exact⟨by omega,by omega,o,E⟩
         ·exact q.out j Y (by omega)
        clear o E
        go_wp2
        go_round
        case rel=>exact⟨k+1,by omega,by omega,by omega,by go_num,O.out⟩
        case measure=>simp[intOf];omega
   ·have A:Hid (∀e,¬zbc s a e):=zeS q.out (.inr (by omega))
    have X:decide ((k:Int)≤(a:Int)+1+40)=false:=decide_eq_false (by omega)
    go_wp2
    go_ret
    exact⟨-1,rfl,.inr ⟨rfl,A.out⟩,rfl⟩
  ·have A:Hid (∀e,¬zbc s a e):=zeS q.out (.inl (by omega))
   go_wp2
   go_ret
   exact⟨-1,rfl,.inr ⟨rfl,A.out⟩,rfl⟩
theorem zhb {s:ByteArray} {a k e:Nat} {w:Bool} {n:Int} (o: ∀j,a≤j→j<k→zD (bt s j)=true) (h:zaJ s a w n e):k≤e∨e<k∧s.size≤e:=by
 obtain⟨⟨A,H,D,z⟩,E,_⟩:=h
 rcases Nat.lt_or_ge e k with g|g
 ·right
  refine⟨g,?_⟩
  rcases Nat.lt_or_ge e s.size with q|q
  ·have:=o e A g
   rw[z q] at this
   cases this
  ·exact q
 ·exact .inl g
theorem zki {s:ByteArray} {a k:Nat} {q:Bool} (A:a<k) (w:k<s.size) (o: ∀j,a≤j→j<k+1→zD (bt s j)=true) (z:bt s a=48): ∀n e,¬zaJ s a q n e:=by
 intro n e h
 have D:=zhb o h
 rcases h.2.2.1 with g|g
 ·omega
 ·exact g z
theorem zkj {s:ByteArray} {a k:Nat} {q:Bool} (z:a≤k) (w:k<s.size) (o: ∀j,a≤j→j<k+1→zD (bt s j)=true) (A:1000000<zbo s a (k+1-a)): ∀n e,¬zaJ s a q n e:=by
 intro n e h
 have I:=zhb o h
 have J:=zgD (s:=s) (a:=a) (k+1-a) (e-a) (fun j E=>(zck.1 (h.1.2.2.1 (a+j) (by omega) (by omega))).1) (by omega)
 have D:=h.2.2.2.1
 have H:=h.2.2.2.2.1
 omega
theorem zkk {s:ByteArray} {a k:Nat} {j:Bool} (w:zau zD s a k) (q:k<s.size) (z:zat (bt s k) j=true): ∀n e,¬zaJ s a j n e:=by
 intro n e h
 have:=zec w h.1
 subst this
 have o:=h.2.2.2.2.2 q
 rw[z] at o
 cases o
theorem zkl (s:ByteArray) (a:Nat) (A:Bool) (w:World) (ha:a<s.size) (O:zD (bt s a)=true) (hs:s.size≤4294967296):
  Calls Tryz.prog 127 #[.string s,.int .i64 a,.bool A] w fun e I=>∃n z:Int,e= .returned (.tuple #[.int .i64 n,.int .i64 z])∧((∃m:Nat,z=m∧zaJ s a A n m)∨(n=0∧z= -1∧∀n m,¬zaJ s a A n m))∧I=w:=by
 have hb:=get_bt s
 have aa:Hid (zD (bt s a)=true):=O
 clear O
 go_enter Tryz.func127,Tryz.ntmps127
 go_wp2
 go_loop [8,9] (fun n i=>∃(k:Nat) (v:Int),a≤k∧k≤s.size∧i= .int .i64 k∧n= .int .i64 v∧v=zbo s a (k-a)∧0≤v∧v≤1000000∧(k≤a+1∨bt s a≠48)∧∀j,a≤j→j<k→zD (bt s j)=true) (fun _ i=>(s.size-intOf i).toNat)
 case atStart=>exact⟨a,0,Nat.le_refl _,by omega,rfl,rfl,by rw[Nat.sub_self];rfl,by omega,by omega,.inl (by omega),fun j h1 h2=>by omega⟩
 case round=>
  obtain⟨k,v,J,U,rfl,rfl,hv,ac,X,hz,V⟩:=hrel
  have K:Hid (∀j,a≤j→j<k→zD (bt s j)=true):=V
  have HV:Hid (v=zbo s a (k-a)):=hv
  have HZ:Hid (k≤a+1∨bt s a≠48):=hz
  clear V hv hz
  by_cases H:k<s.size
  ·have o:=bt_nonneg s k
   have q:=bt_le s k
   cases M:zD (bt s k) with
   |true=>
    have Z:=zck.1 M
    obtain⟨ab,ad⟩:=Z
    have Y:Hid (∀j,a≤j→j<k+1→zD (bt s j)=true):=zem K.out M
    by_cases D:a<k∧bt s a=48
    ·obtain⟨z1,z2⟩:=D
     have L:Hid (∀n e,¬zaJ s a A n e):=zki z1 H Y.out z2
     have q1:(bt s a==48)=true:=by simpa using z2
     clear z2
     go_wp2_with (first|(go_at_call 126;refine (zbH _ _ o q).mono ?_;rintro e I ⟨rfl,rfl⟩))
     go_ret2
     exact⟨0,-1,rfl,.inr ⟨rfl,rfl,L.out⟩,rfl⟩
    ·have HD:Hid (zbo s a (k+1-a)=v*10+(bt s k-48)):=by
      show zbo s a (k+1-a)=_
      rw[show k+1-a=(k-a)+1 from by omega,zbo,←HV.out,show a+(k-a)=k from by omega]
     have N:Hid (k+1≤a+1∨bt s a≠48):=by
      rcases Nat.lt_or_ge a k with g|g
      ·exact .inr fun h=>D ⟨g,h⟩
      ·exact .inl (by omega)
     by_cases hg:1000000<v*10+(bt s k-48)
     ·have L:Hid (∀n e,¬zaJ s a A n e):=zkj J H Y.out (by rw[HD.out];exact hg)
      by_cases E:a<k
      ·have q1:(bt s a==48)=false:=beq_eq_false_iff_ne.2 (fun h=>D ⟨E,h⟩)
       clear D
       go_wp2_with (first|(go_at_call 126;refine (zbH _ _ o q).mono ?_;rintro e I ⟨rfl,rfl⟩))
       go_ret2
       exact⟨0,-1,rfl,.inr ⟨rfl,rfl,L.out⟩,rfl⟩
      ·clear D
       go_wp2_with (first|(go_at_call 126;refine (zbH _ _ o q).mono ?_;rintro e I ⟨rfl,rfl⟩))
       go_ret2
       exact⟨0,-1,rfl,.inr ⟨rfl,rfl,L.out⟩,rfl⟩
     ·by_cases E:a<k
      ·have q1:(bt s a==48)=false:=beq_eq_false_iff_ne.2 (fun h=>D ⟨E,h⟩)
       clear D
       go_wp2_with (first|(go_at_call 126;refine (zbH _ _ o q).mono ?_;rintro e I ⟨rfl,rfl⟩))
       go_round
       case rel=>exact⟨k+1,v*10+(bt s k-48),by omega,by omega,by go_num,by go_num,HD.out.symm,by omega,by omega,N.out,Y.out⟩
       case measure=>simp[intOf];omega
      ·clear D
       go_wp2_with (first|(go_at_call 126;refine (zbH _ _ o q).mono ?_;rintro e I ⟨rfl,rfl⟩))
       go_round
       case rel=>exact⟨k+1,v*10+(bt s k-48),by omega,by omega,by go_num,by go_num,HD.out.symm,by omega,by omega,N.out,Y.out⟩
       case measure=>simp[intOf];omega
   |false=>
    have HR:Hid (zau zD s a k):=⟨J,U,K.out,fun _=>M⟩
    have E:a<k:=by
     rcases Nat.lt_or_ge a k with g|g
     ·exact g
     ·have e:k=a:=by omega
      rw[e,aa.out] at M
      cases M
    cases hl:zat (bt s k) A with
    |true=>
     have L:Hid (∀n e,¬zaJ s a A n e):=zkk HR.out H hl
     go_wp2_with (first|(go_at_call 124;refine (zc0 _ _ _ o q).mono ?_;rintro e I ⟨rfl,rfl⟩)|(go_at_call 126;refine (zbH _ _ o q).mono ?_;rintro e I ⟨rfl,rfl⟩))
     go_ret2
     exact⟨0,-1,rfl,.inr ⟨rfl,rfl,L.out⟩,rfl⟩
    |false=>
     have HA:Hid (zaJ s a A v k):=⟨HR.out,E,HZ.out.imp (fun g=>by omega) id,HV.out,X,fun _=>hl⟩
     go_wp2_with (first|(go_at_call 124;refine (zc0 _ _ _ o q).mono ?_;rintro e I ⟨rfl,rfl⟩)|(go_at_call 126;refine (zbH _ _ o q).mono ?_;rintro e I ⟨rfl,rfl⟩))
     go_ret2
     exact⟨v,k,rfl,.inl ⟨k,rfl,HA.out⟩,rfl⟩
  ·have E:a<k:=by omega
   have HA:Hid (zaJ s a A v k):=⟨⟨J,U,K.out,fun h=>absurd h H⟩,E,HZ.out.imp (fun g=>by omega) id,HV.out,X,fun h=>absurd h H⟩
   go_wp2
   go_ret2
   exact⟨v,k,rfl,.inl ⟨k,rfl,HA.out⟩,rfl⟩
theorem zhc (s:ByteArray) (a:Nat) (w:World) (ha:a≤s.size) (hs:s.size≤4294967296):
  Calls Tryz.prog 67 #[.string s,.int .i64 a] w fun e w'=>∃n:Nat,e= .returned (.int .i64 n)∧Skip s a n∧w'=w:=by
 have hb:=get_bt s
 go_enter Tryz.func67,Tryz.ntmps67
 go_wp2
 go_loop [1,5] (fun i _=>∃k:Nat,k≤s.size∧i= .int .i64 k∧∀c,Skip s k c→Skip s a c) (fun i _=>(s.size-intOf i).toNat)
 case atStart=>exact⟨a,ha,rfl,fun c h=>h⟩
 case round=>
  obtain⟨k,hk,rfl,M⟩:=hrel
  have E:Hid (∀c,Skip s k c→Skip s a c):=M
  clear M
  by_cases J:k<s.size
  ·have ac:=bt_nonneg s k
   have af:=bt_le s k
   by_cases o:zcc (bt s k)
   ·have K:Hid (∀c,Skip s (k+1) c→Skip s a c):=fun c h=>E.out c (.blank J o h)
    have Y:bt s k=9∨bt s k=10∨bt s k=13∨bt s k=32:=o
    clear o
    rcases Y with q|q|q|q
    all_goals
     go_wp2
     go_round
     case rel=>exact⟨k+1,by omega,by go_num,K.out⟩
     case measure=>simp[intOf];omega
   ·have e1:(bt s k==9)=false:=beq_eq_false_iff_ne.2 (fun h=>o (.inl h))
    have e2:(bt s k==10)=false:=beq_eq_false_iff_ne.2 (fun h=>o (.inr (.inl h)))
    have e3:(bt s k==13)=false:=beq_eq_false_iff_ne.2 (fun h=>o (.inr (.inr (.inl h))))
    have e4:(bt s k==32)=false:=beq_eq_false_iff_ne.2 (fun h=>o (.inr (.inr (.inr h))))
    by_cases A:zbM s k
    ·obtain⟨D,s2,s3⟩:=A
     have N:Hid (zbM s k):=⟨D,s2,s3⟩
     have q1:(bt s k !=47)=false:=by simp[D]
     have q2:(bt s (k+1) !=47)=false:=by simp[s3]
     have V:=bt_nonneg s (k+1)
     have aa:=bt_le s (k+1)
     have Z:Hid (bt s k≠10):=by show bt s k≠10;rw[D];omega
     clear D s3 o
     go_wp2
     go_loop [1] (fun i=>∃m:Nat,k≤m∧m≤s.size∧i= .int .i64 m∧∀j,k≤j→j<m→zbb (bt s j)=true) (fun i=>(s.size-intOf i).toNat)
     case atStart=>exact⟨k,Nat.le_refl _,hk,rfl,fun j h1 h2=>by omega⟩
     case round=>
      obtain⟨m,O,H,rfl,U⟩:=hrel
      have L:Hid (∀j,k≤j→j<m→zbb (bt s j)=true):=U
      clear U
      by_cases X:m<s.size
      ·have ad:=bt_nonneg s m
       have ab:=bt_le s m
       by_cases z:bt s m=10
       ·have ae:k<m:=by
         rcases Nat.lt_or_ge k m with g|g
         ·exact g
         ·have e:m=k:=by omega
          rw[e] at z
          exact absurd z Z.out
        have I:Hid (zau zbb s k m):=⟨O,H,L.out,fun _=>by simp[zbb,z]⟩
        have K:Hid (∀c,Skip s m c→Skip s a c):=fun c h=>E.out c (.comment J N.out I.out h)
        have r1:(bt s m !=10)=false:=by simp[z]
        clear z
        go_wp2
        go_round
        case rel=>exact⟨m,H,rfl,K.out⟩
        case measure=>simp[intOf];omega
       ·have K:Hid (∀j,k≤j→j<m+1→zbb (bt s j)=true):=zem L.out (by simp[zbb,z])
        have r1:(bt s m !=10)=true:=by simpa using z
        clear z
        go_wp2
        go_round
        case rel=>exact⟨m+1,by omega,by omega,by go_num,K.out⟩
        case measure=>simp[intOf];omega
      ·have I:Hid (zau zbb s k m):=⟨O,H,L.out,fun h=>absurd h X⟩
       have K:Hid (∀c,Skip s m c→Skip s a c):=fun c h=>E.out c (.comment J N.out I.out h)
       go_wp2
       go_round
       case rel=>exact⟨m,H,rfl,K.out⟩
       case measure=>simp[intOf];omega
    ·have I:Hid (Skip s a k):=E.out k (.stop J o A)
     clear o
     by_cases D:bt s k=47
     ·have q1:(bt s k !=47)=false:=by simp[D]
      by_cases s2:k+1<s.size
      ·have q2:(bt s (k+1) !=47)=true:=by simpa using fun h=>A ⟨D,s2,h⟩
       have V:=bt_nonneg s (k+1)
       have aa:=bt_le s (k+1)
       clear D A
       go_wp2
       go_ret
       exact⟨k,rfl,I.out,rfl⟩
      ·clear D A
       go_wp2
       go_ret
       exact⟨k,rfl,I.out,rfl⟩
     ·have q1:(bt s k !=47)=true:=by simpa using D
      clear D A
      go_wp2
      go_ret
      exact⟨k,rfl,I.out,rfl⟩
  ·have I:Hid (Skip s a k):=E.out k (by rw[show k=s.size from by omega];exact .done)
   go_wp2
   go_ret
   exact⟨k,rfl,I.out,rfl⟩
end Go.Proofs.YticdggnnpjachaaGreat
