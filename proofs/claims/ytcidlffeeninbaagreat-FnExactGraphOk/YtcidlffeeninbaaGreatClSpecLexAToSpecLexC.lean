/-
  What spec's parts of Lex answer: l3Letter,l3Digit,l3Sign,l3Word,l3Num,l3Str,l3Skip: the walks.
  What spec's parts of Lex answer: l3Word,l3Num,l3Str,l3Skip: the walks.
  What spec's parts of Lex answer: l3Num,l3Skip: the walks.
-/
import Derived.Test.YtcidlffeeninbaaGreatProg
import Derived.WalkLawsBesides
import Derived.Test.YtcidlffeeninbaaGreatClAidToTreeMath
namespace Go.Proofs.YtcidlffeeninbaaGreat
set_option maxHeartbeats 3200000
open Go.RowKit Go.PlainAid
theorem zdV {c:Int} {q:Bool} (h: ¬((97≤c∧c≤122)∨(65≤c∧c≤90)∨c=95∨(q=true∧c=36))):za1 c q=false:=by
 rw[Bool.eq_false_iff]
 exact fun k=>h (zdO.1 k)
theorem ziV {c:Int} (h: ¬(48≤c∧c≤57)):zJ c=false:=decide_eq_false h
theorem zda (c:Int) (q:Bool) (w:World) (V:0≤c) (O:c≤255):
  Calls Tryz.prog 125 #[.int .u8 c,.bool q] w fun e K=>e= .returned (.bool (za1 c q))∧K=w:=by
 by_cases N:97≤c
 ·by_cases X:c≤122
  ·skip
   have z:decide (97≤c)=true:=decide_eq_true (by omega)
   have J:decide (c≤122)=true:=decide_eq_true (by omega)
   have h:Hid (za1 c q=true):=zdO.2 (by first|omega|(simp;omega))
   go_enter Tryz.func125,Tryz.ntmps125
   go_wp2
   go_ret
   exact⟨zh h.out.symm,rfl⟩
  ·skip
   cases q with
   |true=>
    have z:decide (97≤c)=true:=decide_eq_true (by omega)
    have J:decide (c≤122)=false:=decide_eq_false (by omega)
    have A:decide (65≤c)=true:=decide_eq_true (by omega)
    have H:decide (c≤90)=false:=decide_eq_false (by omega)
    have D:(c==95)=false:=beq_eq_false_iff_ne.2 (by omega)
    have E:(c==36)=false:=beq_eq_false_iff_ne.2 (by omega)
    have h:Hid (za1 c true=false):=zdV (by first|omega|(simp;omega))
    go_enter Tryz.func125,Tryz.ntmps125
    go_wp2
    go_ret
    exact⟨zh h.out.symm,rfl⟩
   |false=>
    have z:decide (97≤c)=true:=decide_eq_true (by omega)
    have J:decide (c≤122)=false:=decide_eq_false (by omega)
    have A:decide (65≤c)=true:=decide_eq_true (by omega)
    have H:decide (c≤90)=false:=decide_eq_false (by omega)
    have D:(c==95)=false:=beq_eq_false_iff_ne.2 (by omega)
    have E:(c==36)=false:=beq_eq_false_iff_ne.2 (by omega)
    have h:Hid (za1 c false=false):=zdV (by first|omega|(simp;omega))
    go_enter Tryz.func125,Tryz.ntmps125
    go_wp2
    go_ret
    exact⟨zh h.out.symm,rfl⟩
 ·by_cases M:65≤c
  ·by_cases U:c≤90
   ·skip
    have z:decide (97≤c)=false:=decide_eq_false (by omega)
    have A:decide (65≤c)=true:=decide_eq_true (by omega)
    have H:decide (c≤90)=true:=decide_eq_true (by omega)
    have h:Hid (za1 c q=true):=zdO.2 (by first|omega|(simp;omega))
    go_enter Tryz.func125,Tryz.ntmps125
    go_wp2
    go_ret
    exact⟨zh h.out.symm,rfl⟩
   ·by_cases L:c=95
    ·skip
     have z:decide (97≤c)=false:=decide_eq_false (by omega)
     have A:decide (65≤c)=true:=decide_eq_true (by omega)
     have H:decide (c≤90)=false:=decide_eq_false (by omega)
     have D:(c==95)=true:=beq_iff_eq.2 (by omega)
     have h:Hid (za1 c q=true):=zdO.2 (by first|omega|(simp;omega))
     clear L
     go_enter Tryz.func125,Tryz.ntmps125
     go_wp2
     go_ret
     exact⟨zh h.out.symm,rfl⟩
    ·skip
     cases q with
     |true=>
      have z:decide (97≤c)=false:=decide_eq_false (by omega)
      have A:decide (65≤c)=true:=decide_eq_true (by omega)
      have H:decide (c≤90)=false:=decide_eq_false (by omega)
      have D:(c==95)=false:=beq_eq_false_iff_ne.2 (by omega)
      have E:(c==36)=false:=beq_eq_false_iff_ne.2 (by omega)
      have h:Hid (za1 c true=false):=zdV (by first|omega|(simp;omega))
      go_enter Tryz.func125,Tryz.ntmps125
      go_wp2
      go_ret
      exact⟨zh h.out.symm,rfl⟩
     |false=>
      have z:decide (97≤c)=false:=decide_eq_false (by omega)
      have A:decide (65≤c)=true:=decide_eq_true (by omega)
      have H:decide (c≤90)=false:=decide_eq_false (by omega)
      have D:(c==95)=false:=beq_eq_false_iff_ne.2 (by omega)
      have E:(c==36)=false:=beq_eq_false_iff_ne.2 (by omega)
      have h:Hid (za1 c false=false):=zdV (by first|omega|(simp;omega))
      go_enter Tryz.func125,Tryz.ntmps125
      go_wp2
      go_ret
      exact⟨zh h.out.symm,rfl⟩
  ·by_cases I:c=36
   ·skip
    cases q with
    |true=>
     have z:decide (97≤c)=false:=decide_eq_false (by omega)
     have A:decide (65≤c)=false:=decide_eq_false (by omega)
     have D:(c==95)=false:=beq_eq_false_iff_ne.2 (by omega)
     have E:(c==36)=true:=beq_iff_eq.2 (by omega)
     have h:Hid (za1 c true=true):=zdO.2 (by first|omega|(simp;omega))
     clear I
     go_enter Tryz.func125,Tryz.ntmps125
     go_wp2
     go_ret
     exact⟨zh h.out.symm,rfl⟩
    |false=>
     have z:decide (97≤c)=false:=decide_eq_false (by omega)
     have A:decide (65≤c)=false:=decide_eq_false (by omega)
     have D:(c==95)=false:=beq_eq_false_iff_ne.2 (by omega)
     have E:(c==36)=true:=beq_iff_eq.2 (by omega)
     have h:Hid (za1 c false=false):=zdV (by first|omega|(simp;omega))
     clear I
     go_enter Tryz.func125,Tryz.ntmps125
     go_wp2
     go_ret
     exact⟨zh h.out.symm,rfl⟩
   ·skip
    cases q with
    |true=>
     have z:decide (97≤c)=false:=decide_eq_false (by omega)
     have A:decide (65≤c)=false:=decide_eq_false (by omega)
     have D:(c==95)=false:=beq_eq_false_iff_ne.2 (by omega)
     have E:(c==36)=false:=beq_eq_false_iff_ne.2 (by omega)
     have h:Hid (za1 c true=false):=zdV (by first|omega|(simp;omega))
     go_enter Tryz.func125,Tryz.ntmps125
     go_wp2
     go_ret
     exact⟨zh h.out.symm,rfl⟩
    |false=>
     have z:decide (97≤c)=false:=decide_eq_false (by omega)
     have A:decide (65≤c)=false:=decide_eq_false (by omega)
     have D:(c==95)=false:=beq_eq_false_iff_ne.2 (by omega)
     have E:(c==36)=false:=beq_eq_false_iff_ne.2 (by omega)
     have h:Hid (za1 c false=false):=zdV (by first|omega|(simp;omega))
     go_enter Tryz.func125,Tryz.ntmps125
     go_wp2
     go_ret
     exact⟨zh h.out.symm,rfl⟩
theorem zcj (c:Int) (w:World) (I:0≤c) (H:c≤255):
  Calls Tryz.prog 127 #[.int .u8 c] w fun e A=>e= .returned (.bool (zJ c))∧A=w:=by
 by_cases z:48≤c
 ·have D:decide (48≤c)=true:=decide_eq_true z
  by_cases q:c≤57
  ·have E:decide (c≤57)=true:=decide_eq_true q
   have h:Hid (zJ c=true):=zcJ.2 ⟨z,q⟩
   go_enter Tryz.func127,Tryz.ntmps127
   go_wp2
   go_ret
   exact⟨zh h.out.symm,rfl⟩
  ·have E:decide (c≤57)=false:=decide_eq_false q
   have h:Hid (zJ c=false):=ziV (by omega)
   go_enter Tryz.func127,Tryz.ntmps127
   go_wp2
   go_ret
   exact⟨zh h.out.symm,rfl⟩
 ·have D:decide (48≤c)=false:=decide_eq_false z
  have h:Hid (zJ c=false):=ziV (by omega)
  go_enter Tryz.func127,Tryz.ntmps127
  go_wp2
  go_ret
  exact⟨zh h.out.symm,rfl⟩
def signS:ByteArray:={data:=#[123,125,40,41,44,59,61,46,42,43,45]}
theorem zmZ (k:Nat) (h:k<11):zbj (bt signS k):=by
 have: ∀k:Fin 11,zbj (bt signS k.val):=by decide
 exact this ⟨k,h⟩
theorem zna (c:Int) (h:zbj c): ∃k,k<11∧bt signS k=c:=by
 rcases h with rfl|rfl|rfl|rfl|rfl|rfl|rfl|rfl|rfl|rfl|rfl
 ·exact⟨0,by decide⟩
 ·exact⟨1,by decide⟩
 ·exact⟨2,by decide⟩
 ·exact⟨3,by decide⟩
 ·exact⟨4,by decide⟩
 ·exact⟨5,by decide⟩
 ·exact⟨6,by decide⟩
 ·exact⟨7,by decide⟩
 ·exact⟨8,by decide⟩
 ·exact⟨9,by decide⟩
 ·exact⟨10,by decide⟩
def zfk (c:Int):Bool:=decide (zbj c)
theorem ziW (c:Int) (w:World):
  Calls Tryz.prog 130 #[.int .u8 c] w fun e L=>e= .returned (.bool (zfk c))∧L=w:=by
 have M:=get_bt signS
 have E:signS.size=11:=rfl
 obtain⟨S,D⟩: ∃S,signS=S:=⟨_,rfl⟩
 have K:Hid (signS=S):=D
 rw[D] at M E
 go_enter Tryz.func130,Tryz.ntmps130
 go_wp2
 rw[show ({data:=#[123,125,40,41,44,59,61,46,42,43,45]}:ByteArray)=S from D]
 clear D
 go_loop [4] (fun i=>∃k:Nat,k≤11∧i= .int .i64 k∧∀j,j<k→bt S j≠c) (fun i=>(11-intOf i).toNat)
 case atStart=>exact⟨0,by omega,rfl,fun j I=>absurd I (Nat.not_lt_zero j)⟩
 case round=>
  obtain⟨k,U,rfl,A⟩:=hrel
  have z:Hid (∀j,j<k→bt S j≠c):=A
  clear A
  by_cases J:k<11
  ·by_cases q:bt S k=c
   ·have N:(bt S k==c)=true:=by simpa using q
    have H:Hid (zfk c=true):=decide_eq_true (by rw[←q,←K.out];exact zmZ k J)
    clear q
    go_wp2
    go_ret
    exact⟨zh H.out.symm,rfl⟩
   ·have N:(bt S k==c)=false:=by simpa using q
    have O:Hid (∀j,j<k+1→bt S j≠c):=fun j I=>by
     by_cases e:j=k
     ·rw[e];exact q
     ·exact z.out j (by omega)
    clear q
    go_wp2
    go_round
    case rel=>exact⟨k+1,by omega,by go_num,O.out⟩
    case measure=>simp[intOf];omega
  ·have H:Hid (zfk c=false):=decide_eq_false (fun h=>by
    obtain⟨j,I,e⟩:=zna c h
    rw[K.out] at e
    exact z.out j (by omega) e)
   go_wp2
   go_ret
   exact⟨zh H.out.symm,rfl⟩
theorem znb {c:Int} {q:Bool} (h:za1 c q=true):zK q c=true:=by simp[zK,h]
theorem znc {c:Int} {q:Bool} (h:zJ c=true):zK q c=true:=by simp[zK,h]
theorem znd {c:Int} {q:Bool} (h:za1 c q=false) (k:zJ c=false):zK q c=false:=by simp[zK,h,k]
theorem zfl {p:Int→Bool} {s:ByteArray} {a k:Nat} (h: ∀j,a≤j→j<k→p (bt s j)=true) (w:p (bt s k)=true): ∀j,a≤j→j<k+1→p (bt s j)=true:=by
 intro j q z
 by_cases e:j=k
 ·rw[e];exact w
 ·exact h j q (by omega)
theorem zne (s:ByteArray) (a:Nat) (q:Bool) (w:World) (U:a≤s.size) (Z:s.size≤4294967296):
  Calls Tryz.prog 126 #[.string s,.int .i64 a,.bool q] w fun e E=>∃n:Nat,e= .returned (.int .i64 n)∧za2 (zK q) s a n∧E=w:=by
 have V:=get_bt s
 go_enter Tryz.func126,Tryz.ntmps126
 go_wp2
 go_loop [1] (fun i=>∃k:Nat,a≤k∧k≤s.size∧i= .int .i64 k∧∀j,a≤j→j<k→zK q (bt s j)=true) (fun i=>(s.size-intOf i).toNat)
 case atStart=>exact⟨a,Nat.le_refl _,U,rfl,fun j Y X=>by omega⟩
 case round=>
  obtain⟨k,H,J,rfl,I⟩:=hrel
  have D:Hid (∀j,a≤j→j<k→zK q (bt s j)=true):=I
  clear I
  by_cases K:k<s.size
  ·have z:=bt_nonneg s k
   have A:=bt_le s k
   cases O:za1 (bt s k) q with
   |true=>
    have M:Hid (∀j,a≤j→j<k+1→zK q (bt s j)=true):=zfl D.out (znb O)
    go_wp2_with (first|(go_at_call 125;refine (zda _ _ _ z A).mono ?_;rintro e E ⟨rfl,rfl⟩)|(go_at_call 127;refine (zcj _ _ z A).mono ?_;rintro e E ⟨rfl,rfl⟩))
    go_round
    case rel=>exact⟨k+1,by omega,by omega,by go_num,M.out⟩
    case measure=>simp[intOf];omega
   |false=>
    cases N:zJ (bt s k) with
    |true=>
     have M:Hid (∀j,a≤j→j<k+1→zK q (bt s j)=true):=zfl D.out (znc N)
     go_wp2_with (first|(go_at_call 125;refine (zda _ _ _ z A).mono ?_;rintro e E ⟨rfl,rfl⟩)|(go_at_call 127;refine (zcj _ _ z A).mono ?_;rintro e E ⟨rfl,rfl⟩))
     go_round
     case rel=>exact⟨k+1,by omega,by omega,by go_num,M.out⟩
     case measure=>simp[intOf];omega
    |false=>
     have L:Hid (za2 (zK q) s a k):=⟨H,J,D.out,fun _=>znd O N⟩
     go_wp2_with (first|(go_at_call 125;refine (zda _ _ _ z A).mono ?_;rintro e E ⟨rfl,rfl⟩)|(go_at_call 127;refine (zcj _ _ z A).mono ?_;rintro e E ⟨rfl,rfl⟩))
     go_ret
     exact⟨k,rfl,L.out,rfl⟩
  ·have L:Hid (za2 (zK q) s a k):=⟨H,J,D.out,fun h=>absurd h K⟩
   go_wp2
   go_ret
   exact⟨k,rfl,L.out,rfl⟩
theorem zfY {s:ByteArray} {a k:Nat} (q: ∀j,a<j→j<k→zb8 (bt s j)) (h:s.size≤k∨a+42≤k): ∀e,¬zbw s a e:=by
 intro e ⟨h1,h2,h3,h4,_⟩
 exact absurd h4 (q (e-1) (by omega) (by omega)).2.2.1
theorem zfZ {s:ByteArray} {a k:Nat} (z:a<k) (w: ∀j,a<j→j<k→zb8 (bt s j)) (q:bt s k≠34) (h: ¬zb8 (bt s k)): ∀e,¬zbw s a e:=by
 intro e ⟨h1,h2,h3,h4,h5⟩
 rcases Nat.lt_trichotomy (e-1) k with g|g|g
 ·exact absurd h4 (w (e-1) (by omega) g).2.2.1
 ·rw[g] at h4;exact q h4
 ·exact h (h5 k z (by omega))
theorem znf (s:ByteArray) (a:Nat) (w:World) (ha:a<s.size) (hs:s.size≤4294967296):
  Calls Tryz.prog 129 #[.string s,.int .i64 a] w fun e O=>∃z:Int,e= .returned (.int .i64 z)∧((∃n:Nat,z=n∧zbw s a n)∨(z= -1∧∀n,¬zbw s a n))∧O=w:=by
 have hb:=get_bt s
 go_enter Tryz.func129,Tryz.ntmps129
 go_wp2
 go_loop [5] (fun i=>∃k:Nat,a<k∧k≤s.size∧k≤a+42∧i= .int .i64 k∧∀j,a<j→j<k→zb8 (bt s j)) (fun i=>(s.size-intOf i).toNat)
 case atStart=>exact⟨a+1,by omega,by omega,by omega,by go_num,fun j I K=>by omega⟩
 case round=>
  obtain⟨k,E,ad,ab,rfl,J⟩:=hrel
  have A:Hid (∀j,a<j→j<k→zb8 (bt s j)):=J
  clear J
  by_cases U:k<s.size
  ·have aa:=bt_nonneg s k
   have ac:=bt_le s k
   by_cases M:k≤a+41
   ·have Z:decide ((k:Int)≤(a:Int)+1+40)=true:=decide_eq_true (by omega)
    by_cases q:bt s k=34
    ·have V:Hid (zbw s a (k+1)):=⟨by omega,by omega,by omega,by rw[Nat.add_sub_cancel];exact q,fun j I K=>A.out j I (by omega)⟩
     have L:(bt s k==34)=true:=by simpa using q
     clear q
     go_wp2
     go_ret
     exact⟨(k:Int)+1,rfl,.inl ⟨k+1,by omega,V.out⟩,rfl⟩
    ·have L:(bt s k==34)=false:=by simpa using q
     by_cases I:bt s k<32
     ·have D:Hid (∀e,¬zbw s a e):=zfZ E A.out q (fun h=>by have:=h.1;omega)
      have X:decide (bt s k<32)=true:=decide_eq_true I
      clear q
      go_wp2
      go_ret
      exact⟨-1,rfl,.inr ⟨rfl,D.out⟩,rfl⟩
     ·have X:decide (bt s k<32)=false:=decide_eq_false I
      by_cases K:126<bt s k
      ·have D:Hid (∀e,¬zbw s a e):=zfZ E A.out q (fun h=>by have:=h.2.1;omega)
       have q2:decide (126<bt s k)=true:=decide_eq_true K
       clear q
       go_wp2
       go_ret
       exact⟨-1,rfl,.inr ⟨rfl,D.out⟩,rfl⟩
      ·have q2:decide (126<bt s k)=false:=decide_eq_false K
       by_cases H:bt s k=92
       ·have D:Hid (∀e,¬zbw s a e):=zfZ E A.out q (fun h=>h.2.2.2 H)
        have N:(bt s k==92)=true:=by simpa using H
        clear q H L
        have L:(bt s k==34)=false:=beq_eq_false_iff_ne.2 (by have:=beq_iff_eq.1 N;omega)
        go_wp2
        go_ret
        exact⟨-1,rfl,.inr ⟨rfl,D.out⟩,rfl⟩
       ·have N:(bt s k==92)=false:=by simpa using H
        have Y:Hid (∀j,a<j→j<k+1→zb8 (bt s j)):=fun j g1 g2=>by
         by_cases e:j=k
         ·rw[e];exact⟨by omega,by omega,q,H⟩
         ·exact A.out j g1 (by omega)
        clear q H
        go_wp2
        go_round
        case rel=>exact⟨k+1,by omega,by omega,by omega,by go_num,Y.out⟩
        case measure=>simp[intOf];omega
   ·have D:Hid (∀e,¬zbw s a e):=zfY A.out (.inr (by omega))
    have Z:decide ((k:Int)≤(a:Int)+1+40)=false:=decide_eq_false (by omega)
    go_wp2
    go_ret
    exact⟨-1,rfl,.inr ⟨rfl,D.out⟩,rfl⟩
  ·have D:Hid (∀e,¬zbw s a e):=zfY A.out (.inl (by omega))
   go_wp2
   go_ret
   exact⟨-1,rfl,.inr ⟨rfl,D.out⟩,rfl⟩
theorem ziX {s:ByteArray} {a k e:Nat} {z:Bool} {n:Int} (w: ∀j,a≤j→j<k→zJ (bt s j)=true) (h:zaX s a z n e):k≤e∨e<k∧s.size≤e:=by
 obtain⟨⟨A,H,E,D⟩,I,_⟩:=h
 rcases Nat.lt_or_ge e k with g|g
 ·right
  refine⟨g,?_⟩
  rcases Nat.lt_or_ge e s.size with q|q
  ·have:=w e A g
   rw[D q] at this
   cases this
  ·exact q
 ·exact .inl g
theorem zng {s:ByteArray} {a k:Nat} {w:Bool} (E:a<k) (z:k<s.size) (q: ∀j,a≤j→j<k+1→zJ (bt s j)=true) (A:bt s a=48): ∀n e,¬zaX s a w n e:=by
 intro n e h
 have D:=ziX q h
 rcases h.2.2.1 with g|g
 ·omega
 ·exact g A
theorem znh {s:ByteArray} {a k:Nat} {w:Bool} (A:a≤k) (z:k<s.size) (q: ∀j,a≤j→j<k+1→zJ (bt s j)=true) (E:1000000<zb9 s a (k+1-a)): ∀n e,¬zaX s a w n e:=by
 intro n e h
 have H:=ziX q h
 have I:=ziA (s:=s) (a:=a) (k+1-a) (e-a) (fun j J=>(zcJ.1 (h.1.2.2.1 (a+j) (by omega) (by omega))).1) (by omega)
 have D:=h.2.2.2.1
 have K:=h.2.2.2.2.1
 omega
theorem zni {s:ByteArray} {a k:Nat} {q:Bool} (D:za2 zJ s a k) (A:k<s.size) (z:za1 (bt s k) q=true): ∀n e,¬zaX s a q n e:=by
 intro n e h
 have:=zfb D h.1
 subst this
 have w:=h.2.2.2.2.2 A
 rw[z] at w
 cases w
theorem znj (s:ByteArray) (a:Nat) (q:Bool) (w:World) (ha:a<s.size) (N:zJ (bt s a)=true) (hs:s.size≤4294967296):
  Calls Tryz.prog 128 #[.string s,.int .i64 a,.bool q] w fun e J=>∃n z:Int,e= .returned (.tuple #[.int .i64 n,.int .i64 z])∧((∃m:Nat,z=m∧zaX s a q n m)∨(n=0∧z= -1∧∀n m,¬zaX s a q n m))∧J=w:=by
 have hb:=get_bt s
 have aa:Hid (zJ (bt s a)=true):=N
 clear N
 go_enter Tryz.func128,Tryz.ntmps128
 go_wp2
 go_loop [8,9] (fun n i=>∃(k:Nat) (v:Int),a≤k∧k≤s.size∧i= .int .i64 k∧n= .int .i64 v∧v=zb9 s a (k-a)∧0≤v∧v≤1000000∧(k≤a+1∨bt s a≠48)∧∀j,a≤j→j<k→zJ (bt s j)=true) (fun _ i=>(s.size-intOf i).toNat)
 case atStart=>exact⟨a,0,Nat.le_refl _,by omega,rfl,rfl,by rw[Nat.sub_self];rfl,by omega,by omega,.inl (by omega),fun j h1 h2=>by omega⟩
 case round=>
  obtain⟨k,v,K,Y,rfl,rfl,hv,ac,X,hz,U⟩:=hrel
  have L:Hid (∀j,a≤j→j<k→zJ (bt s j)=true):=U
  have HV:Hid (v=zb9 s a (k-a)):=hv
  have HZ:Hid (k≤a+1∨bt s a≠48):=hz
  clear U hv hz
  by_cases I:k<s.size
  ·have A:=bt_nonneg s k
   have D:=bt_le s k
   cases O:zJ (bt s k) with
   |true=>
    have ab:=zcJ.1 O
    obtain⟨ae,ad⟩:=ab
    have Z:Hid (∀j,a≤j→j<k+1→zJ (bt s j)=true):=zfl L.out O
    by_cases E:a<k∧bt s a=48
    ·obtain⟨z1,z2⟩:=E
     have M:Hid (∀n e,¬zaX s a q n e):=zng z1 I Z.out z2
     have q1:(bt s a==48)=true:=by simpa using z2
     clear z2
     go_wp2_with (first|(go_at_call 127;refine (zcj _ _ A D).mono ?_;rintro e J ⟨rfl,rfl⟩))
     go_ret2
     exact⟨0,-1,rfl,.inr ⟨rfl,rfl,M.out⟩,rfl⟩
    ·have HD:Hid (zb9 s a (k+1-a)=v*10+(bt s k-48)):=by
      show zb9 s a (k+1-a)=_
      rw[show k+1-a=(k-a)+1 from by omega,zb9,←HV.out,show a+(k-a)=k from by omega]
     have V:Hid (k+1≤a+1∨bt s a≠48):=by
      rcases Nat.lt_or_ge a k with g|g
      ·exact .inr fun h=>E ⟨g,h⟩
      ·exact .inl (by omega)
     by_cases hg:1000000<v*10+(bt s k-48)
     ·have M:Hid (∀n e,¬zaX s a q n e):=znh K I Z.out (by rw[HD.out];exact hg)
      by_cases H:a<k
      ·have q1:(bt s a==48)=false:=beq_eq_false_iff_ne.2 (fun h=>E ⟨H,h⟩)
       clear E
       go_wp2_with (first|(go_at_call 127;refine (zcj _ _ A D).mono ?_;rintro e J ⟨rfl,rfl⟩))
       go_ret2
       exact⟨0,-1,rfl,.inr ⟨rfl,rfl,M.out⟩,rfl⟩
      ·clear E
       go_wp2_with (first|(go_at_call 127;refine (zcj _ _ A D).mono ?_;rintro e J ⟨rfl,rfl⟩))
       go_ret2
       exact⟨0,-1,rfl,.inr ⟨rfl,rfl,M.out⟩,rfl⟩
     ·by_cases H:a<k
      ·have q1:(bt s a==48)=false:=beq_eq_false_iff_ne.2 (fun h=>E ⟨H,h⟩)
       clear E
       go_wp2_with (first|(go_at_call 127;refine (zcj _ _ A D).mono ?_;rintro e J ⟨rfl,rfl⟩))
       go_round
       case rel=>exact⟨k+1,v*10+(bt s k-48),by omega,by omega,by go_num,by go_num,HD.out.symm,by omega,by omega,V.out,Z.out⟩
       case measure=>simp[intOf];omega
      ·clear E
       go_wp2_with (first|(go_at_call 127;refine (zcj _ _ A D).mono ?_;rintro e J ⟨rfl,rfl⟩))
       go_round
       case rel=>exact⟨k+1,v*10+(bt s k-48),by omega,by omega,by go_num,by go_num,HD.out.symm,by omega,by omega,V.out,Z.out⟩
       case measure=>simp[intOf];omega
   |false=>
    have HR:Hid (za2 zJ s a k):=⟨K,Y,L.out,fun _=>O⟩
    have H:a<k:=by
     rcases Nat.lt_or_ge a k with g|g
     ·exact g
     ·have e:k=a:=by omega
      rw[e,aa.out] at O
      cases O
    cases hl:za1 (bt s k) q with
    |true=>
     have M:Hid (∀n e,¬zaX s a q n e):=zni HR.out I hl
     go_wp2_with (first|(go_at_call 125;refine (zda _ _ _ A D).mono ?_;rintro e J ⟨rfl,rfl⟩)|(go_at_call 127;refine (zcj _ _ A D).mono ?_;rintro e J ⟨rfl,rfl⟩))
     go_ret2
     exact⟨0,-1,rfl,.inr ⟨rfl,rfl,M.out⟩,rfl⟩
    |false=>
     have HA:Hid (zaX s a q v k):=⟨HR.out,H,HZ.out.imp (fun g=>by omega) id,HV.out,X,fun _=>hl⟩
     go_wp2_with (first|(go_at_call 125;refine (zda _ _ _ A D).mono ?_;rintro e J ⟨rfl,rfl⟩)|(go_at_call 127;refine (zcj _ _ A D).mono ?_;rintro e J ⟨rfl,rfl⟩))
     go_ret2
     exact⟨v,k,rfl,.inl ⟨k,rfl,HA.out⟩,rfl⟩
  ·have H:a<k:=by omega
   have HA:Hid (zaX s a q v k):=⟨⟨K,Y,L.out,fun h=>absurd h I⟩,H,HZ.out.imp (fun g=>by omega) id,HV.out,X,fun h=>absurd h I⟩
   go_wp2
   go_ret2
   exact⟨v,k,rfl,.inl ⟨k,rfl,HA.out⟩,rfl⟩
theorem ziY (s:ByteArray) (a:Nat) (w:World) (ha:a≤s.size) (hs:s.size≤4294967296):
  Calls Tryz.prog 84 #[.string s,.int .i64 a] w fun e w'=>∃n:Nat,e= .returned (.int .i64 n)∧Skip s a n∧w'=w:=by
 have hb:=get_bt s
 go_enter Tryz.func84,Tryz.ntmps84
 go_wp2
 go_loop [1,5] (fun i _=>∃k:Nat,k≤s.size∧i= .int .i64 k∧∀c,Skip s k c→Skip s a c) (fun i _=>(s.size-intOf i).toNat)
 case atStart=>exact⟨a,ha,rfl,fun c h=>h⟩
 case round=>
  obtain⟨k,hk,rfl,V⟩:=hrel
  have H:Hid (∀c,Skip s k c→Skip s a c):=V
  clear V
  by_cases J:k<s.size
  ·have ag:=bt_nonneg s k
   have ah:=bt_le s k
   by_cases z:zc8 (bt s k)
   ·have L:Hid (∀c,Skip s (k+1) c→Skip s a c):=fun c h=>H.out c (.blank J z h)
    have ab:bt s k=9∨bt s k=10∨bt s k=13∨bt s k=32:=z
    clear z
    rcases ab with q|q|q|q
    all_goals
     go_wp2
     go_round
     case rel=>exact⟨k+1,by omega,by go_num,L.out⟩
     case measure=>simp[intOf];omega
   ·have e1:(bt s k==9)=false:=beq_eq_false_iff_ne.2 (fun h=>z (.inl h))
    have e2:(bt s k==10)=false:=beq_eq_false_iff_ne.2 (fun h=>z (.inr (.inl h)))
    have e3:(bt s k==13)=false:=beq_eq_false_iff_ne.2 (fun h=>z (.inr (.inr (.inl h))))
    have e4:(bt s k==32)=false:=beq_eq_false_iff_ne.2 (fun h=>z (.inr (.inr (.inr h))))
    by_cases D:zcv s k
    ·obtain⟨E,Y,s3⟩:=D
     have N:Hid (zcv s k):=⟨E,Y,s3⟩
     have q1:(bt s k !=47)=false:=by simp[E]
     have q2:(bt s (k+1) !=47)=false:=by simp[s3]
     have ac:=bt_nonneg s (k+1)
     have X:=bt_le s (k+1)
     have aa:Hid (bt s k≠10):=by show bt s k≠10;rw[E];omega
     clear E s3 z
     go_wp2
     go_loop [1] (fun i=>∃m:Nat,k≤m∧m≤s.size∧i= .int .i64 m∧∀j,k≤j→j<m→zbv (bt s j)=true) (fun i=>(s.size-intOf i).toNat)
     case atStart=>exact⟨k,Nat.le_refl _,hk,rfl,fun j h1 h2=>by omega⟩
     case round=>
      obtain⟨m,O,I,rfl,U⟩:=hrel
      have M:Hid (∀j,k≤j→j<m→zbv (bt s j)=true):=U
      clear U
      by_cases Z:m<s.size
      ·have ae:=bt_nonneg s m
       have ad:=bt_le s m
       by_cases A:bt s m=10
       ·have af:k<m:=by
         rcases Nat.lt_or_ge k m with g|g
         ·exact g
         ·have e:m=k:=by omega
          rw[e] at A
          exact absurd A aa.out
        have K:Hid (za2 zbv s k m):=⟨O,I,M.out,fun _=>by simp[zbv,A]⟩
        have L:Hid (∀c,Skip s m c→Skip s a c):=fun c h=>H.out c (.comment J N.out K.out h)
        have r1:(bt s m !=10)=false:=by simp[A]
        clear A
        go_wp2
        go_round
        case rel=>exact⟨m,I,rfl,L.out⟩
        case measure=>simp[intOf];omega
       ·have L:Hid (∀j,k≤j→j<m+1→zbv (bt s j)=true):=zfl M.out (by simp[zbv,A])
        have r1:(bt s m !=10)=true:=by simpa using A
        clear A
        go_wp2
        go_round
        case rel=>exact⟨m+1,by omega,by omega,by go_num,L.out⟩
        case measure=>simp[intOf];omega
      ·have K:Hid (za2 zbv s k m):=⟨O,I,M.out,fun h=>absurd h Z⟩
       have L:Hid (∀c,Skip s m c→Skip s a c):=fun c h=>H.out c (.comment J N.out K.out h)
       go_wp2
       go_round
       case rel=>exact⟨m,I,rfl,L.out⟩
       case measure=>simp[intOf];omega
    ·have K:Hid (Skip s a k):=H.out k (.stop J z D)
     clear z
     by_cases E:bt s k=47
     ·have q1:(bt s k !=47)=false:=by simp[E]
      by_cases Y:k+1<s.size
      ·have q2:(bt s (k+1) !=47)=true:=by simpa using fun h=>D ⟨E,Y,h⟩
       have ac:=bt_nonneg s (k+1)
       have X:=bt_le s (k+1)
       clear E D
       go_wp2
       go_ret
       exact⟨k,rfl,K.out,rfl⟩
      ·clear E D
       go_wp2
       go_ret
       exact⟨k,rfl,K.out,rfl⟩
     ·have q1:(bt s k !=47)=true:=by simpa using E
      clear E D
      go_wp2
      go_ret
      exact⟨k,rfl,K.out,rfl⟩
  ·have K:Hid (Skip s a k):=H.out k (by rw[show k=s.size from by omega];exact .done)
   go_wp2
   go_ret
   exact⟨k,rfl,K.out,rfl⟩
end Go.Proofs.YtcidlffeeninbaaGreat
