/- Facts and walks. -/
import Derived.Test.YtgcbmogmniahjaaGreatProg
import Derived.WalkLawsBesides
import Derived.Test.YtgcbmogmniahjaaGreatK1
namespace Go.Proofs.YtgcbmogmniahjaaGreat
open Go.Proofs.Tryz
set_option maxHeartbeats 3200000
open Go.RowKit Go.PlainAid
variable (z:Int) (s:BA) (g:Nat) (w:Bool) (W:World) {u:Int} {C:Bool} {t:BA} {b c:Nat}
theorem zeo (h: ¬((97<=u/\u<=122)∨(65<=u/\u<=90)∨u=95∨(C=true/\u=36))):za5 u C=false:=by
 rw[Bool.eq_false_iff];exact fun k=>h (zej.1 k)
theorem zjH (h: ¬(48<=u/\u<=57)):zL u=false:=decide_eq_false h
theorem zdn (d:World) (V:0<=z) (U:z<=255):
  Calls prog 146 #[.int .u8 z,.bool w] d fun e K=>e= .returned (.bool (za5 z w))/\K=d:=by
 by_cases N:97<=z
 ·by_cases O:z<=122
  ·skip
   have S:decide (97<=z)=true:=decide_eq_true (by omega);have I:decide (z<=122)=true:=decide_eq_true (by omega);have h:Hid (za5 z w=true):=zej.2 (by first|omega|(simp;omega));go_enter func146,ntmps146;go_wp2;go_ret;exact⟨zi h.o.symm,rfl⟩
  ·skip
   cases w with
   |true=>
    have S:decide (97<=z)=true:=decide_eq_true (by omega);have I:decide (z<=122)=false:=decide_eq_false (by omega);have A:decide (65<=z)=true:=decide_eq_true (by omega);have H:decide (z<=90)=false:=decide_eq_false (by omega);have D:(z==95)=false:=beq_eq_false_iff_ne.2 (by omega);have E:(z==36)=false:=beq_eq_false_iff_ne.2 (by omega);have h:Hid (za5 z true=false):=zeo (by first|omega|(simp;omega));go_enter func146,ntmps146;go_wp2;go_ret;exact⟨zi h.o.symm,rfl⟩
   |false=>
    have S:decide (97<=z)=true:=decide_eq_true (by omega);have I:decide (z<=122)=false:=decide_eq_false (by omega);have A:decide (65<=z)=true:=decide_eq_true (by omega);have H:decide (z<=90)=false:=decide_eq_false (by omega);have D:(z==95)=false:=beq_eq_false_iff_ne.2 (by omega);have E:(z==36)=false:=beq_eq_false_iff_ne.2 (by omega);have h:Hid (za5 z false=false):=zeo (by first|omega|(simp;omega));go_enter func146,ntmps146;go_wp2;go_ret;exact⟨zi h.o.symm,rfl⟩
 ·by_cases X:65<=z
  ·by_cases M:z<=90
   ·skip
    have S:decide (97<=z)=false:=decide_eq_false (by omega);have A:decide (65<=z)=true:=decide_eq_true (by omega);have H:decide (z<=90)=true:=decide_eq_true (by omega);have h:Hid (za5 z w=true):=zej.2 (by first|omega|(simp;omega));go_enter func146,ntmps146;go_wp2;go_ret;exact⟨zi h.o.symm,rfl⟩
   ·by_cases L:z=95
    ·skip
     have S:decide (97<=z)=false:=decide_eq_false (by omega);have A:decide (65<=z)=true:=decide_eq_true (by omega);have H:decide (z<=90)=false:=decide_eq_false (by omega);have D:(z==95)=true:=beq_iff_eq.2 (by omega);have h:Hid (za5 z w=true):=zej.2 (by first|omega|(simp;omega));clear L;go_enter func146,ntmps146;go_wp2;go_ret;exact⟨zi h.o.symm,rfl⟩
    ·skip
     cases w with
     |true=>
      have S:decide (97<=z)=false:=decide_eq_false (by omega);have A:decide (65<=z)=true:=decide_eq_true (by omega);have H:decide (z<=90)=false:=decide_eq_false (by omega);have D:(z==95)=false:=beq_eq_false_iff_ne.2 (by omega);have E:(z==36)=false:=beq_eq_false_iff_ne.2 (by omega);have h:Hid (za5 z true=false):=zeo (by first|omega|(simp;omega));go_enter func146,ntmps146;go_wp2;go_ret;exact⟨zi h.o.symm,rfl⟩
     |false=>
      have S:decide (97<=z)=false:=decide_eq_false (by omega);have A:decide (65<=z)=true:=decide_eq_true (by omega);have H:decide (z<=90)=false:=decide_eq_false (by omega);have D:(z==95)=false:=beq_eq_false_iff_ne.2 (by omega);have E:(z==36)=false:=beq_eq_false_iff_ne.2 (by omega);have h:Hid (za5 z false=false):=zeo (by first|omega|(simp;omega));go_enter func146,ntmps146;go_wp2;go_ret;exact⟨zi h.o.symm,rfl⟩
  ·by_cases J:z=36
   ·skip
    cases w with
    |true=>
     have S:decide (97<=z)=false:=decide_eq_false (by omega);have A:decide (65<=z)=false:=decide_eq_false (by omega);have D:(z==95)=false:=beq_eq_false_iff_ne.2 (by omega);have E:(z==36)=true:=beq_iff_eq.2 (by omega);have h:Hid (za5 z true=true):=zej.2 (by first|omega|(simp;omega));clear J;go_enter func146,ntmps146;go_wp2;go_ret;exact⟨zi h.o.symm,rfl⟩
    |false=>
     have S:decide (97<=z)=false:=decide_eq_false (by omega);have A:decide (65<=z)=false:=decide_eq_false (by omega);have D:(z==95)=false:=beq_eq_false_iff_ne.2 (by omega);have E:(z==36)=true:=beq_iff_eq.2 (by omega);have h:Hid (za5 z false=false):=zeo (by first|omega|(simp;omega));clear J;go_enter func146,ntmps146;go_wp2;go_ret;exact⟨zi h.o.symm,rfl⟩
   ·skip
    cases w with
    |true=>
     have S:decide (97<=z)=false:=decide_eq_false (by omega);have A:decide (65<=z)=false:=decide_eq_false (by omega);have D:(z==95)=false:=beq_eq_false_iff_ne.2 (by omega);have E:(z==36)=false:=beq_eq_false_iff_ne.2 (by omega);have h:Hid (za5 z true=false):=zeo (by first|omega|(simp;omega));go_enter func146,ntmps146;go_wp2;go_ret;exact⟨zi h.o.symm,rfl⟩
    |false=>
     have S:decide (97<=z)=false:=decide_eq_false (by omega);have A:decide (65<=z)=false:=decide_eq_false (by omega);have D:(z==95)=false:=beq_eq_false_iff_ne.2 (by omega);have E:(z==36)=false:=beq_eq_false_iff_ne.2 (by omega);have h:Hid (za5 z false=false):=zeo (by first|omega|(simp;omega));go_enter func146,ntmps146;go_wp2;go_ret;exact⟨zi h.o.symm,rfl⟩
theorem zct (I:0<=z) (H:z<=255):
  Calls prog 148 #[.int .u8 z] W fun e D=>e= .returned (.bool (zL z))/\D=W:=by
 by_cases q:48<=z
 ·have E:decide (48<=z)=true:=decide_eq_true q;by_cases S:z<=57
  ·have A:decide (z<=57)=true:=decide_eq_true S;have h:Hid (zL z=true):=zcS.2 ⟨q,S⟩;go_enter func148,ntmps148;go_wp2;go_ret;exact⟨zi h.o.symm,rfl⟩
  ·have A:decide (z<=57)=false:=decide_eq_false S;have h:Hid (zL z=false):=zjH (by omega);go_enter func148,ntmps148;go_wp2;go_ret;exact⟨zi h.o.symm,rfl⟩
 ·have E:decide (48<=z)=false:=decide_eq_false q;have h:Hid (zL z=false):=zjH (by omega);go_enter func148,ntmps148;go_wp2;go_ret;exact⟨zi h.o.symm,rfl⟩
def signS:BA:={data:=#[123,125,40,41,44,59,61,46,42,43,45]}
theorem zoh (h:g<11):zbr (bt signS g):=by
 have: ∀g:Fin 11,zbr (bt signS g.val):=by decide
 exact this ⟨g,h⟩
theorem zoi (h:zbr z): ∃k,k<11/\bt signS k=z:=by
 rcases h with rfl|rfl|rfl|rfl|rfl|rfl|rfl|rfl|rfl|rfl|rfl
 ·exact⟨0,by decide⟩
 ·exact⟨1,by decide⟩
 ·exact⟨2,by decide⟩
 ·exact⟨3,by decide⟩
 ·exact⟨4,by decide⟩
 ·exact⟨5,by decide⟩
 ·exact⟨6,by decide⟩
 ·exact⟨7,by decide⟩
 ·exact⟨8,by decide⟩
 ·exact⟨9,by decide⟩
 ·exact⟨10,by decide⟩
def zf5 (c:Int):Bool:=decide (zbr c)
theorem zjI:
  Calls prog 151 #[.int .u8 z] W fun e M=>e= .returned (.bool (zf5 z))/\M=W:=by
 have N:=get_bt signS;have J:signS.size=11:=rfl;obtain⟨S,D⟩: ∃S,signS=S:=⟨_,rfl⟩;have K:Hid (signS=S):=D;rw[D] at N J;go_enter func151,ntmps151;go_wp2;rw[show ({data:=#[123,125,40,41,44,59,61,46,42,43,45]}:BA)=S from D];clear D;go_loop [4] (fun i=>∃k:Nat,k<=11/\i= .int .i64 k/\∀j,j<k->bt S j≠z) (fun i=>(11-intOf i).toNat)
 case atStart=>exact⟨0,by omega,rfl,fun j H=>absurd H (Nat.not_lt_zero j)⟩
 case round=>
  obtain⟨k,U,rfl,d⟩:=hrel;have A:Hid (∀j,j<k->bt S j≠z):=d;clear d;by_cases E:k<11
  ·by_cases q:bt S k=z
   ·have L:(bt S k==z)=true:=by simpa using q
    have I:Hid (zf5 z=true):=decide_eq_true (by rw[<-q,<-K.o];exact zoh k E);clear q;go_wp2;go_ret;exact⟨zi I.o.symm,rfl⟩
   ·have L:(bt S k==z)=false:=by simpa using q
    have O:Hid (∀j,j<k+1->bt S j≠z):=fun j H=>by
     by_cases e:j=k
     ·rw[e];exact q
     ·exact A.o j (by omega)
    clear q;go_wp2;go_round
    case rel=>exact⟨k+1,by omega,by go_num,O.o⟩
    case measure=>simp[intOf];omega
  ·have I:Hid (zf5 z=false):=decide_eq_false (fun h=>by
    obtain⟨j,H,e⟩:=zoi z h;rw[K.o] at e
    exact A.o j (by omega) e)
   go_wp2;go_ret;exact⟨zi I.o.symm,rfl⟩
theorem zoj (h:za5 u C=true):zN C u=true:=by simp[zN,h]
theorem zok (h:zL u=true):zN C u=true:=by simp[zN,h]
theorem zol (h:za5 u C=false) (k:zL u=false):zN C u=false:=by simp[zN,h,k]
theorem zf6 {p:Int->Bool} (h: ∀j,b<=j->j<c->p (bt t j)=true) (q:p (bt t c)=true): ∀j,b<=j->j<c+1->p (bt t j)=true:=by
 intro j w z;by_cases e:j=c
 ·rw[e];exact q
 ·exact h j w (by omega)
theorem zom (S:World) (U:g<=s.size) (Z:s.size<=4294967296):
  Calls prog 147 #[.string s,.int .i64 g,.bool w] S fun e E=>∃n:Nat,e= .returned (.int .i64 n)/\za6 (zN w) s g n/\E=S:=by
 have X:=get_bt s;go_enter func147,ntmps147;go_wp2;go_loop [1] (fun i=>∃k:Nat,g<=k/\k<=s.size/\i= .int .i64 k/\∀j,g<=j->j<k->zN w (bt s j)=true) (fun i=>(s.size-intOf i).toNat)
 case atStart=>exact⟨g,Nat.le_refl _,U,rfl,fun j Y V=>by omega⟩
 case round=>
  obtain⟨k,I,H,rfl,J⟩:=hrel;have D:Hid (∀j,g<=j->j<k->zN w (bt s j)=true):=J;clear J;by_cases K:k<s.size
  ·have z:=bt_nonneg s k;have A:=bt_le s k;cases O:za5 (bt s k) w with
   |true=>
    have M:Hid (∀j,g<=j->j<k+1->zN w (bt s j)=true):=zf6 D.o (zoj O);go_wp2_with (first|(go_at_call 146;refine (zdn _ _ _ z A).mono ?_;rintro e E ⟨rfl,rfl⟩)|(go_at_call 148;refine (zct _ _ z A).mono ?_;rintro e E ⟨rfl,rfl⟩));go_round
    case rel=>exact⟨k+1,by omega,by omega,by go_num,M.o⟩
    case measure=>simp[intOf];omega
   |false=>
    cases N:zL (bt s k) with
    |true=>
     have M:Hid (∀j,g<=j->j<k+1->zN w (bt s j)=true):=zf6 D.o (zok N);go_wp2_with (first|(go_at_call 146;refine (zdn _ _ _ z A).mono ?_;rintro e E ⟨rfl,rfl⟩)|(go_at_call 148;refine (zct _ _ z A).mono ?_;rintro e E ⟨rfl,rfl⟩));go_round
     case rel=>exact⟨k+1,by omega,by omega,by go_num,M.o⟩
     case measure=>simp[intOf];omega
    |false=>
     have L:Hid (za6 (zN w) s g k):=⟨I,H,D.o,fun _=>zol O N⟩;go_wp2_with (first|(go_at_call 146;refine (zdn _ _ _ z A).mono ?_;rintro e E ⟨rfl,rfl⟩)|(go_at_call 148;refine (zct _ _ z A).mono ?_;rintro e E ⟨rfl,rfl⟩));go_ret;exact⟨k,rfl,L.o,rfl⟩
  ·have L:Hid (za6 (zN w) s g k):=⟨I,H,D.o,fun h=>absurd h K⟩;go_wp2;go_ret;exact⟨k,rfl,L.o,rfl⟩
theorem zgt (q: ∀j,b<j->j<c->zbH (bt t j)) (h:t.size<=c∨b+42<=c): ∀e,¬zb4 t b e:=by
 intro e ⟨h1,h2,h3,h4,_⟩;exact absurd h4 (q (e-1) (by omega) (by omega)).2.2.1
theorem zgu (z:b<c) (q: ∀j,b<j->j<c->zbH (bt t j)) (w:bt t c≠34) (h: ¬zbH (bt t c)): ∀e,¬zb4 t b e:=by
 intro e ⟨h1,h2,h3,h4,h5⟩;rcases Nat.lt_trichotomy (e-1) c with g|g|g
 ·exact absurd h4 (q (e-1) (by omega) g).2.2.1
 ·rw[g] at h4;exact w h4
 ·exact h (h5 c z (by omega))
theorem zon (ha:g<s.size) (hs:s.size<=4294967296):
  Calls prog 150 #[.string s,.int .i64 g] W fun e X=>∃z:Int,e= .returned (.int .i64 z)/\((∃n:Nat,z=n/\zb4 s g n)∨(z= -1/\∀n,¬zb4 s g n))/\X=W:=by
 have hb:=get_bt s;go_enter func150,ntmps150;go_wp2;go_loop [5] (fun i=>∃k:Nat,g<k/\k<=s.size/\k<=g+42/\i= .int .i64 k/\∀j,g<j->j<k->zbH (bt s j)) (fun i=>(s.size-intOf i).toNat)
 case atStart=>exact⟨g+1,by omega,by omega,by omega,by go_num,fun j I K=>by omega⟩
 case round=>
  obtain⟨k,E,V,aa,rfl,J⟩:=hrel;have A:Hid (∀j,g<j->j<k->zbH (bt s j)):=J;clear J;by_cases O:k<s.size
  ·have Z:=bt_nonneg s k;have ab:=bt_le s k;by_cases N:k<=g+41
   ·have U:decide ((k:Int)<=(g:Int)+1+40)=true:=decide_eq_true (by omega);by_cases q:bt s k=34
    ·have HE:Hid (zb4 s g (k+1)):=⟨by omega,by omega,by omega,by rw[Nat.add_sub_cancel];exact q,fun j I K=>A.o j I (by omega)⟩;have L:(bt s k==34)=true:=by simpa using q
     clear q;go_wp2;go_ret;exact⟨(k:Int)+1,rfl,.inl ⟨k+1,by omega,HE.o⟩,rfl⟩
    ·have L:(bt s k==34)=false:=by simpa using q
     by_cases I:bt s k<32
     ·have D:Hid (∀e,¬zb4 s g e):=zgu E A.o q (fun h=>by have:=h.1;omega);have Y:decide (bt s k<32)=true:=decide_eq_true I;clear q;go_wp2;go_ret;exact⟨-1,rfl,.inr ⟨rfl,D.o⟩,rfl⟩
     ·have Y:decide (bt s k<32)=false:=decide_eq_false I;by_cases K:126<bt s k
      ·have D:Hid (∀e,¬zb4 s g e):=zgu E A.o q (fun h=>by have:=h.2.1;omega);have q2:decide (126<bt s k)=true:=decide_eq_true K;clear q;go_wp2;go_ret;exact⟨-1,rfl,.inr ⟨rfl,D.o⟩,rfl⟩
      ·have q2:decide (126<bt s k)=false:=decide_eq_false K;by_cases H:bt s k=92
       ·have D:Hid (∀e,¬zb4 s g e):=zgu E A.o q (fun h=>h.2.2.2 H);have M:(bt s k==92)=true:=by simpa using H
        clear q H L;have L:(bt s k==34)=false:=beq_eq_false_iff_ne.2 (by have:=beq_iff_eq.1 M;omega);go_wp2;go_ret;exact⟨-1,rfl,.inr ⟨rfl,D.o⟩,rfl⟩
       ·have M:(bt s k==92)=false:=by simpa using H
        have HX:Hid (∀j,g<j->j<k+1->zbH (bt s j)):=fun j g1 g2=>by
         by_cases e:j=k
         ·rw[e];exact⟨by omega,by omega,q,H⟩
         ·exact A.o j g1 (by omega)
        clear q H;go_wp2;go_round
        case rel=>exact⟨k+1,by omega,by omega,by omega,by go_num,HX.o⟩
        case measure=>simp[intOf];omega
   ·have D:Hid (∀e,¬zb4 s g e):=zgt A.o (.inr (by omega));have U:decide ((k:Int)<=(g:Int)+1+40)=false:=decide_eq_false (by omega);go_wp2;go_ret;exact⟨-1,rfl,.inr ⟨rfl,D.o⟩,rfl⟩
  ·have D:Hid (∀e,¬zb4 s g e):=zgt A.o (.inl (by omega));go_wp2;go_ret;exact⟨-1,rfl,.inr ⟨rfl,D.o⟩,rfl⟩
theorem zjJ {e:Nat} (w: ∀j,b<=j->j<c->zL (bt t j)=true) (h:zbc t b C u e):c<=e∨e<c/\t.size<=e:=by
 obtain⟨⟨D,E,I,A⟩,H,_⟩:=h;rcases Nat.lt_or_ge e c with g|g
 ·right;refine⟨g,?_⟩;rcases Nat.lt_or_ge e t.size with q|q
  ·have:=w e D g;rw[A q] at this;cases this
  ·exact q
 ·exact .inl g
theorem zoo (D:b<c) (z:c<t.size) (q: ∀j,b<=j->j<c+1->zL (bt t j)=true) (A:bt t b=48): ∀n e,¬zbc t b C n e:=by
 intro n e h;have E:=zjJ q h;rcases h.2.2.1 with g|g
 ·omega
 ·exact g A
theorem zop (A:b<=c) (z:c<t.size) (q: ∀j,b<=j->j<c+1->zL (bt t j)=true) (K:1000000<zbI t b (c+1-b)): ∀n e,¬zbc t b C n e:=by
 intro n e h;have I:=zjJ q h;have E:=zjw (s:=t) (a:=b) (c+1-b) (e-b) (fun j D=>(zcS.1 (h.1.2.2.1 (b+j) (by omega) (by omega))).1) (by omega);have J:=h.2.2.2.1;have H:=h.2.2.2.2.1;omega
theorem zoq (D:za6 zL t b c) (z:c<t.size) (A:za5 (bt t c) C=true): ∀n e,¬zbc t b C n e:=by
 intro n e h;have:=zfw D h.1;subst this;have w:=h.2.2.2.2.2 z;rw[A] at w;cases w
theorem zor (d:World) (ha:g<s.size) (Y:zL (bt s g)=true) (hs:s.size<=4294967296):
  Calls prog 149 #[.string s,.int .i64 g,.bool w] d fun e J=>∃n z:Int,e= .returned (.tuple #[.int .i64 n,.int .i64 z])/\((∃m:Nat,z=m/\zbc s g w n m)∨(n=0/\z= -1/\∀n m,¬zbc s g w n m))/\J=d:=by
 have hb:=get_bt s;have aa:Hid (zL (bt s g)=true):=Y;clear Y;go_enter func149,ntmps149;go_wp2;go_loop [8,9] (fun n i=>∃(k:Nat) (v:Int),g<=k/\k<=s.size/\i= .int .i64 k/\n= .int .i64 v/\v=zbI s g (k-g)/\0<=v/\v<=1000000/\(k<=g+1∨bt s g≠48)/\∀j,g<=j->j<k->zL (bt s j)=true) (fun _ i=>(s.size-intOf i).toNat)
 case atStart=>exact⟨g,0,Nat.le_refl _,by omega,rfl,rfl,by rw[Nat.sub_self];rfl,by omega,by omega,.inl (by omega),fun j h1 h2=>by omega⟩
 case round=>
  obtain⟨k,v,K,O,rfl,rfl,hv,ae,U,hz,X⟩:=hrel;have L:Hid (∀j,g<=j->j<k->zL (bt s j)=true):=X;have HV:Hid (v=zbI s g (k-g)):=hv;have HZ:Hid (k<=g+1∨bt s g≠48):=hz;clear X hv hz;by_cases I:k<s.size
  ·have A:=bt_nonneg s k;have D:=bt_le s k;cases N:zL (bt s k) with
   |true=>
    have ab:=zcS.1 N;obtain⟨ad,ac⟩:=ab;have Z:Hid (∀j,g<=j->j<k+1->zL (bt s j)=true):=zf6 L.o N;by_cases E:g<k/\bt s g=48
    ·obtain⟨z1,z2⟩:=E;have M:Hid (∀n e,¬zbc s g w n e):=zoo z1 I Z.o z2;have q1:(bt s g==48)=true:=by simpa using z2
     clear z2;go_wp2_with (first|(go_at_call 148;refine (zct _ _ A D).mono ?_;rintro e J ⟨rfl,rfl⟩));go_ret2;exact⟨0,-1,rfl,.inr ⟨rfl,rfl,M.o⟩,rfl⟩
    ·have HD:Hid (zbI s g (k+1-g)=v*10+(bt s k-48)):=by
      show zbI s g (k+1-g)=_;rw[show k+1-g=(k-g)+1 from by omega,zbI,<-HV.o,show g+(k-g)=k from by omega]
     have V:Hid (k+1<=g+1∨bt s g≠48):=by
      rcases Nat.lt_or_ge g k with S|S
      ·exact .inr fun h=>E ⟨S,h⟩
      ·exact .inl (by omega)
     by_cases hg:1000000<v*10+(bt s k-48)
     ·have M:Hid (∀n e,¬zbc s g w n e):=zop K I Z.o (by rw[HD.o];exact hg);by_cases H:g<k
      ·have q1:(bt s g==48)=false:=beq_eq_false_iff_ne.2 (fun h=>E ⟨H,h⟩);clear E;go_wp2_with (first|(go_at_call 148;refine (zct _ _ A D).mono ?_;rintro e J ⟨rfl,rfl⟩));go_ret2;exact⟨0,-1,rfl,.inr ⟨rfl,rfl,M.o⟩,rfl⟩
      ·clear E;go_wp2_with (first|(go_at_call 148;refine (zct _ _ A D).mono ?_;rintro e J ⟨rfl,rfl⟩));go_ret2;exact⟨0,-1,rfl,.inr ⟨rfl,rfl,M.o⟩,rfl⟩
     ·by_cases H:g<k
      ·have q1:(bt s g==48)=false:=beq_eq_false_iff_ne.2 (fun h=>E ⟨H,h⟩);clear E;go_wp2_with (first|(go_at_call 148;refine (zct _ _ A D).mono ?_;rintro e J ⟨rfl,rfl⟩));go_round
       case rel=>exact⟨k+1,v*10+(bt s k-48),by omega,by omega,by go_num,by go_num,HD.o.symm,by omega,by omega,V.o,Z.o⟩
       case measure=>simp[intOf];omega
      ·clear E;go_wp2_with (first|(go_at_call 148;refine (zct _ _ A D).mono ?_;rintro e J ⟨rfl,rfl⟩));go_round
       case rel=>exact⟨k+1,v*10+(bt s k-48),by omega,by omega,by go_num,by go_num,HD.o.symm,by omega,by omega,V.o,Z.o⟩
       case measure=>simp[intOf];omega
   |false=>
    have HR:Hid (za6 zL s g k):=⟨K,O,L.o,fun _=>N⟩;have H:g<k:=by
     rcases Nat.lt_or_ge g k with S|S
     ·exact S
     ·have e:k=g:=by omega
      rw[e,aa.o] at N;cases N
    cases hl:za5 (bt s k) w with
    |true=>
     have M:Hid (∀n e,¬zbc s g w n e):=zoq HR.o I hl;go_wp2_with (first|(go_at_call 146;refine (zdn _ _ _ A D).mono ?_;rintro e J ⟨rfl,rfl⟩)|(go_at_call 148;refine (zct _ _ A D).mono ?_;rintro e J ⟨rfl,rfl⟩));go_ret2;exact⟨0,-1,rfl,.inr ⟨rfl,rfl,M.o⟩,rfl⟩
    |false=>
     have HA:Hid (zbc s g w v k):=⟨HR.o,H,HZ.o.imp (fun S=>by omega) id,HV.o,U,fun _=>hl⟩;go_wp2_with (first|(go_at_call 146;refine (zdn _ _ _ A D).mono ?_;rintro e J ⟨rfl,rfl⟩)|(go_at_call 148;refine (zct _ _ A D).mono ?_;rintro e J ⟨rfl,rfl⟩));go_ret2;exact⟨v,k,rfl,.inl ⟨k,rfl,HA.o⟩,rfl⟩
  ·have H:g<k:=by omega
   have HA:Hid (zbc s g w v k):=⟨⟨K,O,L.o,fun h=>absurd h I⟩,H,HZ.o.imp (fun S=>by omega) id,HV.o,U,fun h=>absurd h I⟩;go_wp2;go_ret2;exact⟨v,k,rfl,.inl ⟨k,rfl,HA.o⟩,rfl⟩
theorem zjK (ha:g<=s.size) (hs:s.size<=4294967296):
  Calls prog 111 #[.string s,.int .i64 g] W fun e w'=>∃n:Nat,e= .returned (.int .i64 n)/\Skip s g n/\w'=W:=by
 have hb:=get_bt s;go_enter func111,ntmps111;go_wp2;go_loop [1,5] (fun i _=>∃k:Nat,k<=s.size/\i= .int .i64 k/\∀c,Skip s k c->Skip s g c) (fun i _=>(s.size-intOf i).toNat)
 case atStart=>exact⟨g,ha,rfl,fun c h=>h⟩
 case round=>
  obtain⟨k,hk,rfl,N⟩:=hrel;have H:Hid (∀c,Skip s k c->Skip s g c):=N;clear N;by_cases I:k<s.size
  ·have ag:=bt_nonneg s k;have ah:=bt_le s k;by_cases z:zcF (bt s k)
   ·have M:Hid (∀c,Skip s (k+1) c->Skip s g c):=fun c h=>H.o c (.blank I z h);have aa:bt s k=9∨bt s k=10∨bt s k=13∨bt s k=32:=z;clear z;rcases aa with q|q|q|q
    all_goals
     go_wp2;go_round
     case rel=>exact⟨k+1,by omega,by go_num,M.o⟩
     case measure=>simp[intOf];omega
   ·have e1:(bt s k==9)=false:=beq_eq_false_iff_ne.2 (fun h=>z (.inl h));have e2:(bt s k==10)=false:=beq_eq_false_iff_ne.2 (fun h=>z (.inr (.inl h)));have e3:(bt s k==13)=false:=beq_eq_false_iff_ne.2 (fun h=>z (.inr (.inr (.inl h))));have e4:(bt s k==32)=false:=beq_eq_false_iff_ne.2 (fun h=>z (.inr (.inr (.inr h))));by_cases D:zc1 s k
    ·obtain⟨E,X,s3⟩:=D;have O:Hid (zc1 s k):=⟨E,X,s3⟩;have q1:(bt s k !=47)=false:=by simp[E]
     have q2:(bt s (k+1) !=47)=false:=by simp[s3]
     have ac:=bt_nonneg s (k+1);have Y:=bt_le s (k+1);have ab:Hid (bt s k≠10):=by show bt s k≠10;rw[E];omega
     clear E s3 z;go_wp2;go_loop [1] (fun i=>∃m:Nat,k<=m/\m<=s.size/\i= .int .i64 m/\∀j,k<=j->j<m->zb3 (bt s j)=true) (fun i=>(s.size-intOf i).toNat)
     case atStart=>exact⟨k,Nat.le_refl _,hk,rfl,fun j h1 h2=>by omega⟩
     case round=>
      obtain⟨m,U,J,rfl,V⟩:=hrel;have L:Hid (∀j,k<=j->j<m->zb3 (bt s j)=true):=V;clear V;by_cases Z:m<s.size
      ·have ae:=bt_nonneg s m;have af:=bt_le s m;by_cases A:bt s m=10
       ·have ad:k<m:=by
         rcases Nat.lt_or_ge k m with S|S
         ·exact S
         ·have e:m=k:=by omega
          rw[e] at A;exact absurd A ab.o
        have K:Hid (za6 zb3 s k m):=⟨U,J,L.o,fun _=>by simp[zb3,A]⟩;have M:Hid (∀c,Skip s m c->Skip s g c):=fun c h=>H.o c (.comment I O.o K.o h);have r1:(bt s m !=10)=false:=by simp[A]
        clear A;go_wp2;go_round
        case rel=>exact⟨m,J,rfl,M.o⟩
        case measure=>simp[intOf];omega
       ·have M:Hid (∀j,k<=j->j<m+1->zb3 (bt s j)=true):=zf6 L.o (by simp[zb3,A]);have r1:(bt s m !=10)=true:=by simpa using A
        clear A;go_wp2;go_round
        case rel=>exact⟨m+1,by omega,by omega,by go_num,M.o⟩
        case measure=>simp[intOf];omega
      ·have K:Hid (za6 zb3 s k m):=⟨U,J,L.o,fun h=>absurd h Z⟩;have M:Hid (∀c,Skip s m c->Skip s g c):=fun c h=>H.o c (.comment I O.o K.o h);go_wp2;go_round
       case rel=>exact⟨m,J,rfl,M.o⟩
       case measure=>simp[intOf];omega
    ·have K:Hid (Skip s g k):=H.o k (.stop I z D);clear z;by_cases E:bt s k=47
     ·have q1:(bt s k !=47)=false:=by simp[E]
      by_cases X:k+1<s.size
      ·have q2:(bt s (k+1) !=47)=true:=by simpa using fun h=>D ⟨E,X,h⟩
       have ac:=bt_nonneg s (k+1);have Y:=bt_le s (k+1);clear E D;go_wp2;go_ret;exact⟨k,rfl,K.o,rfl⟩
      ·clear E D;go_wp2;go_ret;exact⟨k,rfl,K.o,rfl⟩
     ·have q1:(bt s k !=47)=true:=by simpa using E
      clear E D;go_wp2;go_ret;exact⟨k,rfl,K.o,rfl⟩
  ·have K:Hid (Skip s g k):=H.o k (by rw[show k=s.size from by omega];exact .done);go_wp2;go_ret;exact⟨k,rfl,K.o,rfl⟩
end Go.Proofs.YtgcbmogmniahjaaGreat
namespace Go.Proofs.YtgcbmogmniahjaaGreat
open Go.Proofs.Tryz
set_option maxHeartbeats 1600000
open Go.RowKit Go.PlainAid
variable (z:Int) (w:World) {u:Int} {W:Bool} {s:BA}
theorem zdg (h: ¬(48<=u/\u<=57)):zL u=false:=decide_eq_false h
theorem zfh:zN W u=true↔(97<=u/\u<=122)∨(65<=u/\u<=90)∨u=95∨(W=true/\u=36)∨(48<=u/\u<=57):=by rw[zN,Bool.or_eq_true,zej,zcS];simp only[or_assoc]
theorem zeA (h: ¬((97<=u/\u<=122)∨(65<=u/\u<=90)∨u=95∨(W=true/\u=36)∨(48<=u/\u<=57))):zN W u=false:=Bool.eq_false_iff.2 fun e=>h (zfh.1 e)
theorem zbY (_:0<=z) (_:z<=255):
  Calls prog 188 #[.int .u8 z] w fun e A=>e= .returned (.bool (zL z))/\A=w:=by
 by_cases D:48<=z
 ·by_cases E:z<=57
  ·have h:Hid (zL z=true):=zcS.2 ⟨D,E⟩;have q:decide (48<=z)=true:=decide_eq_true (by omega);have C:decide (z<=57)=true:=decide_eq_true (by omega);go_enter func188,ntmps188;go_wp2;go_ret;exact⟨zi h.o.symm,rfl⟩
  ·have h:Hid (zL z=false):=zdg (by omega);have q:decide (48<=z)=true:=decide_eq_true (by omega);have C:decide (z<=57)=false:=decide_eq_false (by omega);go_enter func188,ntmps188;go_wp2;go_ret;exact⟨zi h.o.symm,rfl⟩
 ·have h:Hid (zL z=false):=zdg (by omega);have q:decide (48<=z)=false:=decide_eq_false (by omega);go_enter func188,ntmps188;go_wp2;go_ret;exact⟨zi h.o.symm,rfl⟩
theorem zfi (q:Bool) (w:World) (D:0<=z) (A:z<=255):
  Calls prog 189 #[.int .u8 z,.bool q] w fun e C=>e= .returned (.bool (zN q z))/\C=w:=by
 have M:(97<=z/\z<=122)∨(65<=z/\z<=90)∨(48<=z/\z<=57)∨z=95∨z=36∨(z<65/\¬(48<=z/\z<=57)/\z≠36)∨(91<=z/\z<=96/\z≠95)∨123<=z:=by omega
 rcases M with r|r|r|r|r|r|r|r
 ·have h:Hid (zN q z=true):=zfh.2 (by omega);have E:decide (97<=z)=true:=decide_eq_true (by omega);have N:decide (z<=122)=true:=decide_eq_true (by omega);clear r;go_enter func189,ntmps189;go_wp2_with (first|(go_at_call 188;refine (zbY _ _ D A).mono ?_;rintro e C ⟨rfl,rfl⟩));go_ret;exact⟨zi h.o.symm,rfl⟩
 ·have h:Hid (zN q z=true):=zfh.2 (by omega);have E:decide (97<=z)=false:=decide_eq_false (by omega);have H:decide (65<=z)=true:=decide_eq_true (by omega);have L:decide (z<=90)=true:=decide_eq_true (by omega);clear r;go_enter func189,ntmps189;go_wp2_with (first|(go_at_call 188;refine (zbY _ _ D A).mono ?_;rintro e C ⟨rfl,rfl⟩));go_ret;exact⟨zi h.o.symm,rfl⟩
 ·have h:Hid (zN q z=true):=zfh.2 (by omega);have E:decide (97<=z)=false:=decide_eq_false (by omega);have H:decide (65<=z)=false:=decide_eq_false (by omega);have I:zL z=true:=zcS.2 r;clear r;go_enter func189,ntmps189;go_wp2_with (first|(go_at_call 188;refine (zbY _ _ D A).mono ?_;rintro e C ⟨rfl,rfl⟩));go_ret;exact⟨zi h.o.symm,rfl⟩
 ·have h:Hid (zN q z=true):=zfh.2 (by omega);have E:decide (97<=z)=false:=decide_eq_false (by omega);have H:decide (65<=z)=true:=decide_eq_true (by omega);have L:decide (z<=90)=false:=decide_eq_false (by omega);have I:zL z=false:=zdg (by omega);have J:(z==95)=true:=beq_iff_eq.2 (by omega);clear r;go_enter func189,ntmps189;go_wp2_with (first|(go_at_call 188;refine (zbY _ _ D A).mono ?_;rintro e C ⟨rfl,rfl⟩));go_ret;exact⟨zi h.o.symm,rfl⟩
 ·cases q
  ·have h:Hid (zN false z=false):=zeA (by simp;omega);have E:decide (97<=z)=false:=decide_eq_false (by omega);have H:decide (65<=z)=false:=decide_eq_false (by omega);have I:zL z=false:=zdg (by omega);have J:(z==95)=false:=beq_eq_false_iff_ne.2 (by omega);have K:(z==36)=true:=beq_iff_eq.2 (by omega);clear r;go_enter func189,ntmps189;go_wp2_with (first|(go_at_call 188;refine (zbY _ _ D A).mono ?_;rintro e C ⟨rfl,rfl⟩));go_ret;exact⟨zi h.o.symm,rfl⟩
  ·have h:Hid (zN true z=true):=zfh.2 (by simp;omega);have E:decide (97<=z)=false:=decide_eq_false (by omega);have H:decide (65<=z)=false:=decide_eq_false (by omega);have I:zL z=false:=zdg (by omega);have J:(z==95)=false:=beq_eq_false_iff_ne.2 (by omega);have K:(z==36)=true:=beq_iff_eq.2 (by omega);clear r;go_enter func189,ntmps189;go_wp2_with (first|(go_at_call 188;refine (zbY _ _ D A).mono ?_;rintro e C ⟨rfl,rfl⟩));go_ret;exact⟨zi h.o.symm,rfl⟩
 ·cases q
  ·have h:Hid (zN false z=false):=zeA (by simp;omega);have E:decide (97<=z)=false:=decide_eq_false (by omega);have H:decide (65<=z)=false:=decide_eq_false (by omega);have I:zL z=false:=zdg (by omega);have J:(z==95)=false:=beq_eq_false_iff_ne.2 (by omega);have K:(z==36)=false:=beq_eq_false_iff_ne.2 (by omega);clear r;go_enter func189,ntmps189;go_wp2_with (first|(go_at_call 188;refine (zbY _ _ D A).mono ?_;rintro e C ⟨rfl,rfl⟩));go_ret;exact⟨zi h.o.symm,rfl⟩
  ·have h:Hid (zN true z=false):=zeA (by simp;omega);have E:decide (97<=z)=false:=decide_eq_false (by omega);have H:decide (65<=z)=false:=decide_eq_false (by omega);have I:zL z=false:=zdg (by omega);have J:(z==95)=false:=beq_eq_false_iff_ne.2 (by omega);have K:(z==36)=false:=beq_eq_false_iff_ne.2 (by omega);clear r;go_enter func189,ntmps189;go_wp2_with (first|(go_at_call 188;refine (zbY _ _ D A).mono ?_;rintro e C ⟨rfl,rfl⟩));go_ret;exact⟨zi h.o.symm,rfl⟩
 ·cases q
  ·have h:Hid (zN false z=false):=zeA (by simp;omega);have E:decide (97<=z)=false:=decide_eq_false (by omega);have H:decide (65<=z)=true:=decide_eq_true (by omega);have L:decide (z<=90)=false:=decide_eq_false (by omega);have I:zL z=false:=zdg (by omega);have J:(z==95)=false:=beq_eq_false_iff_ne.2 (by omega);have K:(z==36)=false:=beq_eq_false_iff_ne.2 (by omega);clear r;go_enter func189,ntmps189;go_wp2_with (first|(go_at_call 188;refine (zbY _ _ D A).mono ?_;rintro e C ⟨rfl,rfl⟩));go_ret;exact⟨zi h.o.symm,rfl⟩
  ·have h:Hid (zN true z=false):=zeA (by simp;omega);have E:decide (97<=z)=false:=decide_eq_false (by omega);have H:decide (65<=z)=true:=decide_eq_true (by omega);have L:decide (z<=90)=false:=decide_eq_false (by omega);have I:zL z=false:=zdg (by omega);have J:(z==95)=false:=beq_eq_false_iff_ne.2 (by omega);have K:(z==36)=false:=beq_eq_false_iff_ne.2 (by omega);clear r;go_enter func189,ntmps189;go_wp2_with (first|(go_at_call 188;refine (zbY _ _ D A).mono ?_;rintro e C ⟨rfl,rfl⟩));go_ret;exact⟨zi h.o.symm,rfl⟩
 ·cases q
  ·have h:Hid (zN false z=false):=zeA (by simp;omega);have E:decide (97<=z)=true:=decide_eq_true (by omega);have N:decide (z<=122)=false:=decide_eq_false (by omega);have H:decide (65<=z)=true:=decide_eq_true (by omega);have L:decide (z<=90)=false:=decide_eq_false (by omega);have I:zL z=false:=zdg (by omega);have J:(z==95)=false:=beq_eq_false_iff_ne.2 (by omega);have K:(z==36)=false:=beq_eq_false_iff_ne.2 (by omega);clear r;go_enter func189,ntmps189;go_wp2_with (first|(go_at_call 188;refine (zbY _ _ D A).mono ?_;rintro e C ⟨rfl,rfl⟩));go_ret;exact⟨zi h.o.symm,rfl⟩
  ·have h:Hid (zN true z=false):=zeA (by simp;omega);have E:decide (97<=z)=true:=decide_eq_true (by omega);have N:decide (z<=122)=false:=decide_eq_false (by omega);have H:decide (65<=z)=true:=decide_eq_true (by omega);have L:decide (z<=90)=false:=decide_eq_false (by omega);have I:zL z=false:=zdg (by omega);have J:(z==95)=false:=beq_eq_false_iff_ne.2 (by omega);have K:(z==36)=false:=beq_eq_false_iff_ne.2 (by omega);clear r;go_enter func189,ntmps189;go_wp2_with (first|(go_at_call 188;refine (zbY _ _ D A).mono ?_;rintro e C ⟨rfl,rfl⟩));go_ret;exact⟨zi h.o.symm,rfl⟩
def zeB (c:Int):Bool:=decide (zbH c)
theorem zhf (N:0<=z) (M:z<=255):
  Calls prog 210 #[.int .u8 z] w fun e J=>e= .returned (.bool (zeB z))/\J=w:=by
 have C:z<32∨127<=z∨z=34∨z=92∨zbH z:=by unfold zbH;omega
 rcases C with r|r|r|r|r
 ·have q:Hid (zeB z=false):=decide_eq_false (fun h=>by unfold zbH at h;omega);have A:decide (32<=z)=false:=decide_eq_false (by omega);clear r;go_enter func210,ntmps210;go_wp2;go_ret;exact⟨zi q.o.symm,rfl⟩
 ·have q:Hid (zeB z=false):=decide_eq_false (fun h=>by unfold zbH at h;omega);have A:decide (32<=z)=true:=decide_eq_true (by omega);have H:decide (z<=126)=false:=decide_eq_false (by omega);clear r;go_enter func210,ntmps210;go_wp2;go_ret;exact⟨zi q.o.symm,rfl⟩
 ·have q:Hid (zeB z=false):=decide_eq_false (fun h=>by unfold zbH at h;omega);subst r;go_enter func210,ntmps210;go_wp2;go_ret;exact⟨zi q.o.symm,rfl⟩
 ·have q:Hid (zeB z=false):=decide_eq_false (fun h=>by unfold zbH at h;omega);subst r;go_enter func210,ntmps210;go_wp2;go_ret;exact⟨zi q.o.symm,rfl⟩
 ·have q:Hid (zeB z=true):=decide_eq_true r;obtain⟨K,D,I,E⟩:=r;have A:decide (32<=z)=true:=decide_eq_true (by omega);have H:decide (z<=126)=true:=decide_eq_true (by omega);have L:(z !=34)=true:=bne_iff_ne.2 (by omega);have O:(z !=92)=true:=bne_iff_ne.2 (by omega);clear K D I E;go_enter func210,ntmps210;go_wp2;go_ret;exact⟨zi q.o.symm,rfl⟩
abbrev zeC (c:Int):Prop:=48<=c/\c<=57
def dv (s:BA) (p:Nat):Nat->Int
 |0=>0
 |k+1=>dv s p k*10+(bt s (p+k)-48)
theorem zuI (s:BA) (p k:Nat) (h: ∀j,j<k->zeC (bt s (p+j))):0<=dv s p k/\dv s p k<10^k:=by
 induction k with
 |zero=>simp[dv]
 |succ k q=>
  obtain⟨a,b⟩:=q (fun j w=>h j (by omega));have c:=h k (by omega);unfold zeC at c;rw[dv,zel];omega
theorem zuJ (k:Nat) (h:k<=9):(10:Int)^k<=1000000000:=by
 have:=zf2 h;have e:(10:Int)^9=1000000000:=by decide
 omega
def pfx (s:BA):Nat:=if bt s 0=45 then 1 else 0
theorem zuK (s:BA):pfx s<=s.size:=by
 unfold pfx
 split
 ·rename_i h
  rcases Nat.eq_zero_or_pos s.size with e|e
  ·rw[bt_end s (by omega)] at h;omega
  ·omega
 ·omega
abbrev RdP (s:BA):Prop:=
 1<=s.size-pfx s/\s.size-pfx s<=9/\(∀j,j<s.size-pfx s->zeC (bt s (pfx s+j)))/\(bt s (pfx s)≠48∨(pfx s=0/\s.size=1))
def zfj (s:BA):Bool:=decide (RdP s)
def rdV (s:BA):Int:=if zfj s then (if pfx s=1 then-dv s 1 (s.size-1) else dv s 0 s.size) else 0
theorem zfZ (h:RdP s):zfj s=true:=decide_eq_true h
theorem zdK (h: ¬RdP s):zfj s=false:=decide_eq_false h
theorem zeD (h: ¬RdP s):rdV s=0:=by rw[rdV,zdK h];rfl
def spV (s:BA):Nat->Int
 |0=>0
 |k+1=>if zeC (bt s k) then spV s k*10+(bt s k-48) else spV s k
def spK (s:BA):Nat->Int
 |0=>0
 |k+1=>if zeC (bt s k) then spK s k+1 else spK s k
def spN (s:BA):Int:=if bt s 0=45 then-spV s s.size else spV s s.size
end Go.Proofs.YtgcbmogmniahjaaGreat
