/- Facts and walks that the theorem stands on. -/
import Derived.Test.YtgcbmogmniahjaaGreatProg
import Derived.WalkLawsBesides
import Derived.Test.YtgcbmogmniahjaaGreatG1
namespace Go.Proofs.YtgcbmogmniahjaaGreat
open Go.Proofs.Tryz
set_option maxHeartbeats 3200000
open Go.RowKit Go.PlainAid
theorem zdW {c:Int} {q:Bool} (h: ¬((97<=c/\c<=122)∨(65<=c/\c<=90)∨c=95∨(q=true/\c=36))):za0 c q=false:=by
 rw[Bool.eq_false_iff];exact fun k=>h (zdQ.1 k)
theorem zjj {c:Int} (h: ¬(48<=c/\c<=57)):zJ c=false:=decide_eq_false h
theorem zda (c:Int) (q:Bool) (w:World) (V:0<=c) (U:c<=255):
  Calls prog 146 #[.int .u8 c,.bool q] w fun e K=>e= .returned (.bool (za0 c q))/\K=w:=by
 by_cases N:97<=c
 ·by_cases O:c<=122
  ·skip
   have z:decide (97<=c)=true:=decide_eq_true (by omega);have I:decide (c<=122)=true:=decide_eq_true (by omega);have h:Hid (za0 c q=true):=zdQ.2 (by first|omega|(simp;omega));go_enter func146,ntmps146;go_wp2;go_ret;exact⟨zi h.o.symm,rfl⟩
  ·skip
   cases q with
   |true=>
    have z:decide (97<=c)=true:=decide_eq_true (by omega);have I:decide (c<=122)=false:=decide_eq_false (by omega);have A:decide (65<=c)=true:=decide_eq_true (by omega);have H:decide (c<=90)=false:=decide_eq_false (by omega);have D:(c==95)=false:=beq_eq_false_iff_ne.2 (by omega);have E:(c==36)=false:=beq_eq_false_iff_ne.2 (by omega);have h:Hid (za0 c true=false):=zdW (by first|omega|(simp;omega));go_enter func146,ntmps146;go_wp2;go_ret;exact⟨zi h.o.symm,rfl⟩
   |false=>
    have z:decide (97<=c)=true:=decide_eq_true (by omega);have I:decide (c<=122)=false:=decide_eq_false (by omega);have A:decide (65<=c)=true:=decide_eq_true (by omega);have H:decide (c<=90)=false:=decide_eq_false (by omega);have D:(c==95)=false:=beq_eq_false_iff_ne.2 (by omega);have E:(c==36)=false:=beq_eq_false_iff_ne.2 (by omega);have h:Hid (za0 c false=false):=zdW (by first|omega|(simp;omega));go_enter func146,ntmps146;go_wp2;go_ret;exact⟨zi h.o.symm,rfl⟩
 ·by_cases X:65<=c
  ·by_cases M:c<=90
   ·skip
    have z:decide (97<=c)=false:=decide_eq_false (by omega);have A:decide (65<=c)=true:=decide_eq_true (by omega);have H:decide (c<=90)=true:=decide_eq_true (by omega);have h:Hid (za0 c q=true):=zdQ.2 (by first|omega|(simp;omega));go_enter func146,ntmps146;go_wp2;go_ret;exact⟨zi h.o.symm,rfl⟩
   ·by_cases L:c=95
    ·skip
     have z:decide (97<=c)=false:=decide_eq_false (by omega);have A:decide (65<=c)=true:=decide_eq_true (by omega);have H:decide (c<=90)=false:=decide_eq_false (by omega);have D:(c==95)=true:=beq_iff_eq.2 (by omega);have h:Hid (za0 c q=true):=zdQ.2 (by first|omega|(simp;omega));clear L;go_enter func146,ntmps146;go_wp2;go_ret;exact⟨zi h.o.symm,rfl⟩
    ·skip
     cases q with
     |true=>
      have z:decide (97<=c)=false:=decide_eq_false (by omega);have A:decide (65<=c)=true:=decide_eq_true (by omega);have H:decide (c<=90)=false:=decide_eq_false (by omega);have D:(c==95)=false:=beq_eq_false_iff_ne.2 (by omega);have E:(c==36)=false:=beq_eq_false_iff_ne.2 (by omega);have h:Hid (za0 c true=false):=zdW (by first|omega|(simp;omega));go_enter func146,ntmps146;go_wp2;go_ret;exact⟨zi h.o.symm,rfl⟩
     |false=>
      have z:decide (97<=c)=false:=decide_eq_false (by omega);have A:decide (65<=c)=true:=decide_eq_true (by omega);have H:decide (c<=90)=false:=decide_eq_false (by omega);have D:(c==95)=false:=beq_eq_false_iff_ne.2 (by omega);have E:(c==36)=false:=beq_eq_false_iff_ne.2 (by omega);have h:Hid (za0 c false=false):=zdW (by first|omega|(simp;omega));go_enter func146,ntmps146;go_wp2;go_ret;exact⟨zi h.o.symm,rfl⟩
  ·by_cases J:c=36
   ·skip
    cases q with
    |true=>
     have z:decide (97<=c)=false:=decide_eq_false (by omega);have A:decide (65<=c)=false:=decide_eq_false (by omega);have D:(c==95)=false:=beq_eq_false_iff_ne.2 (by omega);have E:(c==36)=true:=beq_iff_eq.2 (by omega);have h:Hid (za0 c true=true):=zdQ.2 (by first|omega|(simp;omega));clear J;go_enter func146,ntmps146;go_wp2;go_ret;exact⟨zi h.o.symm,rfl⟩
    |false=>
     have z:decide (97<=c)=false:=decide_eq_false (by omega);have A:decide (65<=c)=false:=decide_eq_false (by omega);have D:(c==95)=false:=beq_eq_false_iff_ne.2 (by omega);have E:(c==36)=true:=beq_iff_eq.2 (by omega);have h:Hid (za0 c false=false):=zdW (by first|omega|(simp;omega));clear J;go_enter func146,ntmps146;go_wp2;go_ret;exact⟨zi h.o.symm,rfl⟩
   ·skip
    cases q with
    |true=>
     have z:decide (97<=c)=false:=decide_eq_false (by omega);have A:decide (65<=c)=false:=decide_eq_false (by omega);have D:(c==95)=false:=beq_eq_false_iff_ne.2 (by omega);have E:(c==36)=false:=beq_eq_false_iff_ne.2 (by omega);have h:Hid (za0 c true=false):=zdW (by first|omega|(simp;omega));go_enter func146,ntmps146;go_wp2;go_ret;exact⟨zi h.o.symm,rfl⟩
    |false=>
     have z:decide (97<=c)=false:=decide_eq_false (by omega);have A:decide (65<=c)=false:=decide_eq_false (by omega);have D:(c==95)=false:=beq_eq_false_iff_ne.2 (by omega);have E:(c==36)=false:=beq_eq_false_iff_ne.2 (by omega);have h:Hid (za0 c false=false):=zdW (by first|omega|(simp;omega));go_enter func146,ntmps146;go_wp2;go_ret;exact⟨zi h.o.symm,rfl⟩
theorem zcl (c:Int) (w:World) (I:0<=c) (H:c<=255):
  Calls prog 148 #[.int .u8 c] w fun e D=>e= .returned (.bool (zJ c))/\D=w:=by
 by_cases q:48<=c
 ·have E:decide (48<=c)=true:=decide_eq_true q;by_cases z:c<=57
  ·have A:decide (c<=57)=true:=decide_eq_true z;have h:Hid (zJ c=true):=zcI.2 ⟨q,z⟩;go_enter func148,ntmps148;go_wp2;go_ret;exact⟨zi h.o.symm,rfl⟩
  ·have A:decide (c<=57)=false:=decide_eq_false z;have h:Hid (zJ c=false):=zjj (by omega);go_enter func148,ntmps148;go_wp2;go_ret;exact⟨zi h.o.symm,rfl⟩
 ·have E:decide (48<=c)=false:=decide_eq_false q;have h:Hid (zJ c=false):=zjj (by omega);go_enter func148,ntmps148;go_wp2;go_ret;exact⟨zi h.o.symm,rfl⟩
def signS:BA:={data:=#[123,125,40,41,44,59,61,46,42,43,45]}
theorem znu (k:Nat) (h:k<11):zbl (bt signS k):=by
 have: ∀k:Fin 11,zbl (bt signS k.val):=by decide
 exact this ⟨k,h⟩
theorem znv (c:Int) (h:zbl c): ∃k,k<11/\bt signS k=c:=by
 rcases h with rfl|rfl|rfl|rfl|rfl|rfl|rfl|rfl|rfl|rfl|rfl
 ·exact⟨0,by decide⟩
 ·exact⟨1,by decide⟩
 ·exact⟨2,by decide⟩
 ·exact⟨3,by decide⟩
 ·exact⟨4,by decide⟩
 ·exact⟨5,by decide⟩
 ·exact⟨6,by decide⟩
 ·exact⟨7,by decide⟩
 ·exact⟨8,by decide⟩
 ·exact⟨9,by decide⟩
 ·exact⟨10,by decide⟩
def zfn (c:Int):Bool:=decide (zbl c)
theorem zjk (c:Int) (w:World):
  Calls prog 151 #[.int .u8 c] w fun e M=>e= .returned (.bool (zfn c))/\M=w:=by
 have N:=get_bt signS;have J:signS.size=11:=rfl;obtain⟨S,D⟩: ∃S,signS=S:=⟨_,rfl⟩;have K:Hid (signS=S):=D;rw[D] at N J;go_enter func151,ntmps151;go_wp2;rw[show ({data:=#[123,125,40,41,44,59,61,46,42,43,45]}:BA)=S from D];clear D;go_loop [4] (fun i=>∃k:Nat,k<=11/\i= .int .i64 k/\∀j,j<k->bt S j≠c) (fun i=>(11-intOf i).toNat)
 case atStart=>exact⟨0,by omega,rfl,fun j H=>absurd H (Nat.not_lt_zero j)⟩
 case round=>
  obtain⟨k,U,rfl,z⟩:=hrel;have A:Hid (∀j,j<k->bt S j≠c):=z;clear z;by_cases E:k<11
  ·by_cases q:bt S k=c
   ·have L:(bt S k==c)=true:=by simpa using q
    have I:Hid (zfn c=true):=decide_eq_true (by rw[<-q,<-K.o];exact znu k E);clear q;go_wp2;go_ret;exact⟨zi I.o.symm,rfl⟩
   ·have L:(bt S k==c)=false:=by simpa using q
    have O:Hid (∀j,j<k+1->bt S j≠c):=fun j H=>by
     by_cases e:j=k
     ·rw[e];exact q
     ·exact A.o j (by omega)
    clear q;go_wp2;go_round
    case rel=>exact⟨k+1,by omega,by go_num,O.o⟩
    case measure=>simp[intOf];omega
  ·have I:Hid (zfn c=false):=decide_eq_false (fun h=>by
    obtain⟨j,H,e⟩:=znv c h;rw[K.o] at e
    exact A.o j (by omega) e)
   go_wp2;go_ret;exact⟨zi I.o.symm,rfl⟩
theorem znw {c:Int} {q:Bool} (h:za0 c q=true):zL q c=true:=by simp[zL,h]
theorem znx {c:Int} {q:Bool} (h:zJ c=true):zL q c=true:=by simp[zL,h]
theorem zny {c:Int} {q:Bool} (h:za0 c q=false) (k:zJ c=false):zL q c=false:=by simp[zL,h,k]
theorem zfo {p:Int->Bool} {s:BA} {a k:Nat} (h: ∀j,a<=j->j<k->p (bt s j)=true) (q:p (bt s k)=true): ∀j,a<=j->j<k+1->p (bt s j)=true:=by
 intro j w z;by_cases e:j=k
 ·rw[e];exact q
 ·exact h j w (by omega)
theorem znz (s:BA) (a:Nat) (q:Bool) (w:World) (U:a<=s.size) (Z:s.size<=4294967296):
  Calls prog 147 #[.string s,.int .i64 a,.bool q] w fun e E=>∃n:Nat,e= .returned (.int .i64 n)/\za1 (zL q) s a n/\E=w:=by
 have X:=get_bt s;go_enter func147,ntmps147;go_wp2;go_loop [1] (fun i=>∃k:Nat,a<=k/\k<=s.size/\i= .int .i64 k/\∀j,a<=j->j<k->zL q (bt s j)=true) (fun i=>(s.size-intOf i).toNat)
 case atStart=>exact⟨a,Nat.le_refl _,U,rfl,fun j Y V=>by omega⟩
 case round=>
  obtain⟨k,I,H,rfl,J⟩:=hrel;have D:Hid (∀j,a<=j->j<k->zL q (bt s j)=true):=J;clear J;by_cases K:k<s.size
  ·have z:=bt_nonneg s k;have A:=bt_le s k;cases O:za0 (bt s k) q with
   |true=>
    have M:Hid (∀j,a<=j->j<k+1->zL q (bt s j)=true):=zfo D.o (znw O);go_wp2_with (first|(go_at_call 146;refine (zda _ _ _ z A).mono ?_;rintro e E ⟨rfl,rfl⟩)|(go_at_call 148;refine (zcl _ _ z A).mono ?_;rintro e E ⟨rfl,rfl⟩));go_round
    case rel=>exact⟨k+1,by omega,by omega,by go_num,M.o⟩
    case measure=>simp[intOf];omega
   |false=>
    cases N:zJ (bt s k) with
    |true=>
     have M:Hid (∀j,a<=j->j<k+1->zL q (bt s j)=true):=zfo D.o (znx N);go_wp2_with (first|(go_at_call 146;refine (zda _ _ _ z A).mono ?_;rintro e E ⟨rfl,rfl⟩)|(go_at_call 148;refine (zcl _ _ z A).mono ?_;rintro e E ⟨rfl,rfl⟩));go_round
     case rel=>exact⟨k+1,by omega,by omega,by go_num,M.o⟩
     case measure=>simp[intOf];omega
    |false=>
     have L:Hid (za1 (zL q) s a k):=⟨I,H,D.o,fun _=>zny O N⟩;go_wp2_with (first|(go_at_call 146;refine (zda _ _ _ z A).mono ?_;rintro e E ⟨rfl,rfl⟩)|(go_at_call 148;refine (zcl _ _ z A).mono ?_;rintro e E ⟨rfl,rfl⟩));go_ret;exact⟨k,rfl,L.o,rfl⟩
  ·have L:Hid (za1 (zL q) s a k):=⟨I,H,D.o,fun h=>absurd h K⟩;go_wp2;go_ret;exact⟨k,rfl,L.o,rfl⟩
theorem zgb {s:BA} {a k:Nat} (q: ∀j,a<j->j<k->zbB (bt s j)) (h:s.size<=k∨a+42<=k): ∀e,¬zbz s a e:=by
 intro e ⟨h1,h2,h3,h4,_⟩;exact absurd h4 (q (e-1) (by omega) (by omega)).2.2.1
theorem zgc {s:BA} {a k:Nat} (z:a<k) (q: ∀j,a<j->j<k->zbB (bt s j)) (w:bt s k≠34) (h: ¬zbB (bt s k)): ∀e,¬zbz s a e:=by
 intro e ⟨h1,h2,h3,h4,h5⟩;rcases Nat.lt_trichotomy (e-1) k with g|g|g
 ·exact absurd h4 (q (e-1) (by omega) g).2.2.1
 ·rw[g] at h4;exact w h4
 ·exact h (h5 k z (by omega))
theorem zn0 (s:BA) (a:Nat) (w:World) (ha:a<s.size) (hs:s.size<=4294967296):
  Calls prog 150 #[.string s,.int .i64 a] w fun e X=>∃z:Int,e= .returned (.int .i64 z)/\((∃n:Nat,z=n/\zbz s a n)∨(z= -1/\∀n,¬zbz s a n))/\X=w:=by
 have hb:=get_bt s;go_enter func150,ntmps150;go_wp2;go_loop [5] (fun i=>∃k:Nat,a<k/\k<=s.size/\k<=a+42/\i= .int .i64 k/\∀j,a<j->j<k->zbB (bt s j)) (fun i=>(s.size-intOf i).toNat)
 case atStart=>exact⟨a+1,by omega,by omega,by omega,by go_num,fun j I K=>by omega⟩
 case round=>
  obtain⟨k,E,V,aa,rfl,J⟩:=hrel;have A:Hid (∀j,a<j->j<k->zbB (bt s j)):=J;clear J;by_cases O:k<s.size
  ·have Z:=bt_nonneg s k;have ab:=bt_le s k;by_cases N:k<=a+41
   ·have U:decide ((k:Int)<=(a:Int)+1+40)=true:=decide_eq_true (by omega);by_cases q:bt s k=34
    ·have HE:Hid (zbz s a (k+1)):=⟨by omega,by omega,by omega,by rw[Nat.add_sub_cancel];exact q,fun j I K=>A.o j I (by omega)⟩;have L:(bt s k==34)=true:=by simpa using q
     clear q;go_wp2;go_ret;exact⟨(k:Int)+1,rfl,.inl ⟨k+1,by omega,HE.o⟩,rfl⟩
    ·have L:(bt s k==34)=false:=by simpa using q
     by_cases I:bt s k<32
     ·have D:Hid (∀e,¬zbz s a e):=zgc E A.o q (fun h=>by have:=h.1;omega);have Y:decide (bt s k<32)=true:=decide_eq_true I;clear q;go_wp2;go_ret;exact⟨-1,rfl,.inr ⟨rfl,D.o⟩,rfl⟩
     ·have Y:decide (bt s k<32)=false:=decide_eq_false I;by_cases K:126<bt s k
      ·have D:Hid (∀e,¬zbz s a e):=zgc E A.o q (fun h=>by have:=h.2.1;omega);have q2:decide (126<bt s k)=true:=decide_eq_true K;clear q;go_wp2;go_ret;exact⟨-1,rfl,.inr ⟨rfl,D.o⟩,rfl⟩
      ·have q2:decide (126<bt s k)=false:=decide_eq_false K;by_cases H:bt s k=92
       ·have D:Hid (∀e,¬zbz s a e):=zgc E A.o q (fun h=>h.2.2.2 H);have M:(bt s k==92)=true:=by simpa using H
        clear q H L;have L:(bt s k==34)=false:=beq_eq_false_iff_ne.2 (by have:=beq_iff_eq.1 M;omega);go_wp2;go_ret;exact⟨-1,rfl,.inr ⟨rfl,D.o⟩,rfl⟩
       ·have M:(bt s k==92)=false:=by simpa using H
        have HX:Hid (∀j,a<j->j<k+1->zbB (bt s j)):=fun j g1 g2=>by
         by_cases e:j=k
         ·rw[e];exact⟨by omega,by omega,q,H⟩
         ·exact A.o j g1 (by omega)
        clear q H;go_wp2;go_round
        case rel=>exact⟨k+1,by omega,by omega,by omega,by go_num,HX.o⟩
        case measure=>simp[intOf];omega
   ·have D:Hid (∀e,¬zbz s a e):=zgb A.o (.inr (by omega));have U:decide ((k:Int)<=(a:Int)+1+40)=false:=decide_eq_false (by omega);go_wp2;go_ret;exact⟨-1,rfl,.inr ⟨rfl,D.o⟩,rfl⟩
  ·have D:Hid (∀e,¬zbz s a e):=zgb A.o (.inl (by omega));go_wp2;go_ret;exact⟨-1,rfl,.inr ⟨rfl,D.o⟩,rfl⟩
theorem zjl {s:BA} {a k e:Nat} {z:Bool} {n:Int} (w: ∀j,a<=j->j<k->zJ (bt s j)=true) (h:zaZ s a z n e):k<=e∨e<k/\s.size<=e:=by
 obtain⟨⟨D,E,I,A⟩,H,_⟩:=h;rcases Nat.lt_or_ge e k with g|g
 ·right;refine⟨g,?_⟩;rcases Nat.lt_or_ge e s.size with q|q
  ·have:=w e D g;rw[A q] at this;cases this
  ·exact q
 ·exact .inl g
theorem zn1 {s:BA} {a k:Nat} {w:Bool} (D:a<k) (z:k<s.size) (q: ∀j,a<=j->j<k+1->zJ (bt s j)=true) (A:bt s a=48): ∀n e,¬zaZ s a w n e:=by
 intro n e h;have E:=zjl q h;rcases h.2.2.1 with g|g
 ·omega
 ·exact g A
theorem zn2 {s:BA} {a k:Nat} {w:Bool} (A:a<=k) (z:k<s.size) (q: ∀j,a<=j->j<k+1->zJ (bt s j)=true) (K:1000000<zbC s a (k+1-a)): ∀n e,¬zaZ s a w n e:=by
 intro n e h;have I:=zjl q h;have E:=ziO (s:=s) (a:=a) (k+1-a) (e-a) (fun j D=>(zcI.1 (h.1.2.2.1 (a+j) (by omega) (by omega))).1) (by omega);have J:=h.2.2.2.1;have H:=h.2.2.2.2.1;omega
theorem zn3 {s:BA} {a k:Nat} {q:Bool} (D:za1 zJ s a k) (z:k<s.size) (A:za0 (bt s k) q=true): ∀n e,¬zaZ s a q n e:=by
 intro n e h;have:=zfe D h.1;subst this;have w:=h.2.2.2.2.2 z;rw[A] at w;cases w
theorem zn4 (s:BA) (a:Nat) (q:Bool) (w:World) (ha:a<s.size) (Y:zJ (bt s a)=true) (hs:s.size<=4294967296):
  Calls prog 149 #[.string s,.int .i64 a,.bool q] w fun e J=>∃n z:Int,e= .returned (.tuple #[.int .i64 n,.int .i64 z])/\((∃m:Nat,z=m/\zaZ s a q n m)∨(n=0/\z= -1/\∀n m,¬zaZ s a q n m))/\J=w:=by
 have hb:=get_bt s;have aa:Hid (zJ (bt s a)=true):=Y;clear Y;go_enter func149,ntmps149;go_wp2;go_loop [8,9] (fun n i=>∃(k:Nat) (v:Int),a<=k/\k<=s.size/\i= .int .i64 k/\n= .int .i64 v/\v=zbC s a (k-a)/\0<=v/\v<=1000000/\(k<=a+1∨bt s a≠48)/\∀j,a<=j->j<k->zJ (bt s j)=true) (fun _ i=>(s.size-intOf i).toNat)
 case atStart=>exact⟨a,0,Nat.le_refl _,by omega,rfl,rfl,by rw[Nat.sub_self];rfl,by omega,by omega,.inl (by omega),fun j h1 h2=>by omega⟩
 case round=>
  obtain⟨k,v,K,O,rfl,rfl,hv,ae,U,hz,X⟩:=hrel;have L:Hid (∀j,a<=j->j<k->zJ (bt s j)=true):=X;have HV:Hid (v=zbC s a (k-a)):=hv;have HZ:Hid (k<=a+1∨bt s a≠48):=hz;clear X hv hz;by_cases I:k<s.size
  ·have A:=bt_nonneg s k;have D:=bt_le s k;cases N:zJ (bt s k) with
   |true=>
    have ab:=zcI.1 N;obtain⟨ad,ac⟩:=ab;have Z:Hid (∀j,a<=j->j<k+1->zJ (bt s j)=true):=zfo L.o N;by_cases E:a<k/\bt s a=48
    ·obtain⟨z1,z2⟩:=E;have M:Hid (∀n e,¬zaZ s a q n e):=zn1 z1 I Z.o z2;have q1:(bt s a==48)=true:=by simpa using z2
     clear z2;go_wp2_with (first|(go_at_call 148;refine (zcl _ _ A D).mono ?_;rintro e J ⟨rfl,rfl⟩));go_ret2;exact⟨0,-1,rfl,.inr ⟨rfl,rfl,M.o⟩,rfl⟩
    ·have HD:Hid (zbC s a (k+1-a)=v*10+(bt s k-48)):=by
      show zbC s a (k+1-a)=_;rw[show k+1-a=(k-a)+1 from by omega,zbC,<-HV.o,show a+(k-a)=k from by omega]
     have V:Hid (k+1<=a+1∨bt s a≠48):=by
      rcases Nat.lt_or_ge a k with g|g
      ·exact .inr fun h=>E ⟨g,h⟩
      ·exact .inl (by omega)
     by_cases hg:1000000<v*10+(bt s k-48)
     ·have M:Hid (∀n e,¬zaZ s a q n e):=zn2 K I Z.o (by rw[HD.o];exact hg);by_cases H:a<k
      ·have q1:(bt s a==48)=false:=beq_eq_false_iff_ne.2 (fun h=>E ⟨H,h⟩);clear E;go_wp2_with (first|(go_at_call 148;refine (zcl _ _ A D).mono ?_;rintro e J ⟨rfl,rfl⟩));go_ret2;exact⟨0,-1,rfl,.inr ⟨rfl,rfl,M.o⟩,rfl⟩
      ·clear E;go_wp2_with (first|(go_at_call 148;refine (zcl _ _ A D).mono ?_;rintro e J ⟨rfl,rfl⟩));go_ret2;exact⟨0,-1,rfl,.inr ⟨rfl,rfl,M.o⟩,rfl⟩
     ·by_cases H:a<k
      ·have q1:(bt s a==48)=false:=beq_eq_false_iff_ne.2 (fun h=>E ⟨H,h⟩);clear E;go_wp2_with (first|(go_at_call 148;refine (zcl _ _ A D).mono ?_;rintro e J ⟨rfl,rfl⟩));go_round
       case rel=>exact⟨k+1,v*10+(bt s k-48),by omega,by omega,by go_num,by go_num,HD.o.symm,by omega,by omega,V.o,Z.o⟩
       case measure=>simp[intOf];omega
      ·clear E;go_wp2_with (first|(go_at_call 148;refine (zcl _ _ A D).mono ?_;rintro e J ⟨rfl,rfl⟩));go_round
       case rel=>exact⟨k+1,v*10+(bt s k-48),by omega,by omega,by go_num,by go_num,HD.o.symm,by omega,by omega,V.o,Z.o⟩
       case measure=>simp[intOf];omega
   |false=>
    have HR:Hid (za1 zJ s a k):=⟨K,O,L.o,fun _=>N⟩;have H:a<k:=by
     rcases Nat.lt_or_ge a k with g|g
     ·exact g
     ·have e:k=a:=by omega
      rw[e,aa.o] at N;cases N
    cases hl:za0 (bt s k) q with
    |true=>
     have M:Hid (∀n e,¬zaZ s a q n e):=zn3 HR.o I hl;go_wp2_with (first|(go_at_call 146;refine (zda _ _ _ A D).mono ?_;rintro e J ⟨rfl,rfl⟩)|(go_at_call 148;refine (zcl _ _ A D).mono ?_;rintro e J ⟨rfl,rfl⟩));go_ret2;exact⟨0,-1,rfl,.inr ⟨rfl,rfl,M.o⟩,rfl⟩
    |false=>
     have HA:Hid (zaZ s a q v k):=⟨HR.o,H,HZ.o.imp (fun g=>by omega) id,HV.o,U,fun _=>hl⟩;go_wp2_with (first|(go_at_call 146;refine (zda _ _ _ A D).mono ?_;rintro e J ⟨rfl,rfl⟩)|(go_at_call 148;refine (zcl _ _ A D).mono ?_;rintro e J ⟨rfl,rfl⟩));go_ret2;exact⟨v,k,rfl,.inl ⟨k,rfl,HA.o⟩,rfl⟩
  ·have H:a<k:=by omega
   have HA:Hid (zaZ s a q v k):=⟨⟨K,O,L.o,fun h=>absurd h I⟩,H,HZ.o.imp (fun g=>by omega) id,HV.o,U,fun h=>absurd h I⟩;go_wp2;go_ret2;exact⟨v,k,rfl,.inl ⟨k,rfl,HA.o⟩,rfl⟩
theorem zjm (s:BA) (a:Nat) (w:World) (ha:a<=s.size) (hs:s.size<=4294967296):
  Calls prog 111 #[.string s,.int .i64 a] w fun e w'=>∃n:Nat,e= .returned (.int .i64 n)/\Skip s a n/\w'=w:=by
 have hb:=get_bt s;go_enter func111,ntmps111;go_wp2;go_loop [1,5] (fun i _=>∃k:Nat,k<=s.size/\i= .int .i64 k/\∀c,Skip s k c->Skip s a c) (fun i _=>(s.size-intOf i).toNat)
 case atStart=>exact⟨a,ha,rfl,fun c h=>h⟩
 case round=>
  obtain⟨k,hk,rfl,N⟩:=hrel;have H:Hid (∀c,Skip s k c->Skip s a c):=N;clear N;by_cases I:k<s.size
  ·have ag:=bt_nonneg s k;have ah:=bt_le s k;by_cases z:zc7 (bt s k)
   ·have M:Hid (∀c,Skip s (k+1) c->Skip s a c):=fun c h=>H.o c (.blank I z h);have aa:bt s k=9∨bt s k=10∨bt s k=13∨bt s k=32:=z;clear z;rcases aa with q|q|q|q
    all_goals
     go_wp2;go_round
     case rel=>exact⟨k+1,by omega,by go_num,M.o⟩
     case measure=>simp[intOf];omega
   ·have e1:(bt s k==9)=false:=beq_eq_false_iff_ne.2 (fun h=>z (.inl h));have e2:(bt s k==10)=false:=beq_eq_false_iff_ne.2 (fun h=>z (.inr (.inl h)));have e3:(bt s k==13)=false:=beq_eq_false_iff_ne.2 (fun h=>z (.inr (.inr (.inl h))));have e4:(bt s k==32)=false:=beq_eq_false_iff_ne.2 (fun h=>z (.inr (.inr (.inr h))));by_cases D:zcu s k
    ·obtain⟨E,X,s3⟩:=D;have O:Hid (zcu s k):=⟨E,X,s3⟩;have q1:(bt s k !=47)=false:=by simp[E]
     have q2:(bt s (k+1) !=47)=false:=by simp[s3]
     have ac:=bt_nonneg s (k+1);have Y:=bt_le s (k+1);have ab:Hid (bt s k≠10):=by show bt s k≠10;rw[E];omega
     clear E s3 z;go_wp2;go_loop [1] (fun i=>∃m:Nat,k<=m/\m<=s.size/\i= .int .i64 m/\∀j,k<=j->j<m->zby (bt s j)=true) (fun i=>(s.size-intOf i).toNat)
     case atStart=>exact⟨k,Nat.le_refl _,hk,rfl,fun j h1 h2=>by omega⟩
     case round=>
      obtain⟨m,U,J,rfl,V⟩:=hrel;have L:Hid (∀j,k<=j->j<m->zby (bt s j)=true):=V;clear V;by_cases Z:m<s.size
      ·have ae:=bt_nonneg s m;have af:=bt_le s m;by_cases A:bt s m=10
       ·have ad:k<m:=by
         rcases Nat.lt_or_ge k m with g|g
         ·exact g
         ·have e:m=k:=by omega
          rw[e] at A;exact absurd A ab.o
        have K:Hid (za1 zby s k m):=⟨U,J,L.o,fun _=>by simp[zby,A]⟩;have M:Hid (∀c,Skip s m c->Skip s a c):=fun c h=>H.o c (.comment I O.o K.o h);have r1:(bt s m !=10)=false:=by simp[A]
        clear A;go_wp2;go_round
        case rel=>exact⟨m,J,rfl,M.o⟩
        case measure=>simp[intOf];omega
       ·have M:Hid (∀j,k<=j->j<m+1->zby (bt s j)=true):=zfo L.o (by simp[zby,A]);have r1:(bt s m !=10)=true:=by simpa using A
        clear A;go_wp2;go_round
        case rel=>exact⟨m+1,by omega,by omega,by go_num,M.o⟩
        case measure=>simp[intOf];omega
      ·have K:Hid (za1 zby s k m):=⟨U,J,L.o,fun h=>absurd h Z⟩;have M:Hid (∀c,Skip s m c->Skip s a c):=fun c h=>H.o c (.comment I O.o K.o h);go_wp2;go_round
       case rel=>exact⟨m,J,rfl,M.o⟩
       case measure=>simp[intOf];omega
    ·have K:Hid (Skip s a k):=H.o k (.stop I z D);clear z;by_cases E:bt s k=47
     ·have q1:(bt s k !=47)=false:=by simp[E]
      by_cases X:k+1<s.size
      ·have q2:(bt s (k+1) !=47)=true:=by simpa using fun h=>D ⟨E,X,h⟩
       have ac:=bt_nonneg s (k+1);have Y:=bt_le s (k+1);clear E D;go_wp2;go_ret;exact⟨k,rfl,K.o,rfl⟩
      ·clear E D;go_wp2;go_ret;exact⟨k,rfl,K.o,rfl⟩
     ·have q1:(bt s k !=47)=true:=by simpa using E
      clear E D;go_wp2;go_ret;exact⟨k,rfl,K.o,rfl⟩
  ·have K:Hid (Skip s a k):=H.o k (by rw[show k=s.size from by omega];exact .done);go_wp2;go_ret;exact⟨k,rfl,K.o,rfl⟩
end Go.Proofs.YtgcbmogmniahjaaGreat
namespace Go.Proofs.YtgcbmogmniahjaaGreat
open Go.Proofs.Tryz
set_option maxHeartbeats 1600000
open Go.RowKit Go.PlainAid
theorem zcW {c:Int} (h: ¬(48<=c/\c<=57)):zJ c=false:=decide_eq_false h
theorem zeP {c:Int} {h:Bool}:zL h c=true↔(97<=c/\c<=122)∨(65<=c/\c<=90)∨c=95∨(h=true/\c=36)∨(48<=c/\c<=57):=by rw[zL,Bool.or_eq_true,zdQ,zcI];simp only[or_assoc]
theorem zes {c:Int} {q:Bool} (h: ¬((97<=c/\c<=122)∨(65<=c/\c<=90)∨c=95∨(q=true/\c=36)∨(48<=c/\c<=57))):zL q c=false:=Bool.eq_false_iff.2 fun e=>h (zeP.1 e)
theorem zbP (c:Int) (w:World) (_:0<=c) (_:c<=255):
  Calls prog 188 #[.int .u8 c] w fun e A=>e= .returned (.bool (zJ c))/\A=w:=by
 by_cases D:48<=c
 ·by_cases E:c<=57
  ·have h:Hid (zJ c=true):=zcI.2 ⟨D,E⟩;have q:decide (48<=c)=true:=decide_eq_true (by omega);have z:decide (c<=57)=true:=decide_eq_true (by omega);go_enter func188,ntmps188;go_wp2;go_ret;exact⟨zi h.o.symm,rfl⟩
  ·have h:Hid (zJ c=false):=zcW (by omega);have q:decide (48<=c)=true:=decide_eq_true (by omega);have z:decide (c<=57)=false:=decide_eq_false (by omega);go_enter func188,ntmps188;go_wp2;go_ret;exact⟨zi h.o.symm,rfl⟩
 ·have h:Hid (zJ c=false):=zcW (by omega);have q:decide (48<=c)=false:=decide_eq_false (by omega);go_enter func188,ntmps188;go_wp2;go_ret;exact⟨zi h.o.symm,rfl⟩
theorem zeQ (c:Int) (q:Bool) (w:World) (D:0<=c) (A:c<=255):
  Calls prog 189 #[.int .u8 c,.bool q] w fun e z=>e= .returned (.bool (zL q c))/\z=w:=by
 have M:(97<=c/\c<=122)∨(65<=c/\c<=90)∨(48<=c/\c<=57)∨c=95∨c=36∨(c<65/\¬(48<=c/\c<=57)/\c≠36)∨(91<=c/\c<=96/\c≠95)∨123<=c:=by omega
 rcases M with r|r|r|r|r|r|r|r
 ·have h:Hid (zL q c=true):=zeP.2 (by omega);have E:decide (97<=c)=true:=decide_eq_true (by omega);have N:decide (c<=122)=true:=decide_eq_true (by omega);clear r;go_enter func189,ntmps189;go_wp2_with (first|(go_at_call 188;refine (zbP _ _ D A).mono ?_;rintro e z ⟨rfl,rfl⟩));go_ret;exact⟨zi h.o.symm,rfl⟩
 ·have h:Hid (zL q c=true):=zeP.2 (by omega);have E:decide (97<=c)=false:=decide_eq_false (by omega);have H:decide (65<=c)=true:=decide_eq_true (by omega);have L:decide (c<=90)=true:=decide_eq_true (by omega);clear r;go_enter func189,ntmps189;go_wp2_with (first|(go_at_call 188;refine (zbP _ _ D A).mono ?_;rintro e z ⟨rfl,rfl⟩));go_ret;exact⟨zi h.o.symm,rfl⟩
 ·have h:Hid (zL q c=true):=zeP.2 (by omega);have E:decide (97<=c)=false:=decide_eq_false (by omega);have H:decide (65<=c)=false:=decide_eq_false (by omega);have I:zJ c=true:=zcI.2 r;clear r;go_enter func189,ntmps189;go_wp2_with (first|(go_at_call 188;refine (zbP _ _ D A).mono ?_;rintro e z ⟨rfl,rfl⟩));go_ret;exact⟨zi h.o.symm,rfl⟩
 ·have h:Hid (zL q c=true):=zeP.2 (by omega);have E:decide (97<=c)=false:=decide_eq_false (by omega);have H:decide (65<=c)=true:=decide_eq_true (by omega);have L:decide (c<=90)=false:=decide_eq_false (by omega);have I:zJ c=false:=zcW (by omega);have J:(c==95)=true:=beq_iff_eq.2 (by omega);clear r;go_enter func189,ntmps189;go_wp2_with (first|(go_at_call 188;refine (zbP _ _ D A).mono ?_;rintro e z ⟨rfl,rfl⟩));go_ret;exact⟨zi h.o.symm,rfl⟩
 ·cases q
  ·have h:Hid (zL false c=false):=zes (by simp;omega);have E:decide (97<=c)=false:=decide_eq_false (by omega);have H:decide (65<=c)=false:=decide_eq_false (by omega);have I:zJ c=false:=zcW (by omega);have J:(c==95)=false:=beq_eq_false_iff_ne.2 (by omega);have K:(c==36)=true:=beq_iff_eq.2 (by omega);clear r;go_enter func189,ntmps189;go_wp2_with (first|(go_at_call 188;refine (zbP _ _ D A).mono ?_;rintro e z ⟨rfl,rfl⟩));go_ret;exact⟨zi h.o.symm,rfl⟩
  ·have h:Hid (zL true c=true):=zeP.2 (by simp;omega);have E:decide (97<=c)=false:=decide_eq_false (by omega);have H:decide (65<=c)=false:=decide_eq_false (by omega);have I:zJ c=false:=zcW (by omega);have J:(c==95)=false:=beq_eq_false_iff_ne.2 (by omega);have K:(c==36)=true:=beq_iff_eq.2 (by omega);clear r;go_enter func189,ntmps189;go_wp2_with (first|(go_at_call 188;refine (zbP _ _ D A).mono ?_;rintro e z ⟨rfl,rfl⟩));go_ret;exact⟨zi h.o.symm,rfl⟩
 ·cases q
  ·have h:Hid (zL false c=false):=zes (by simp;omega);have E:decide (97<=c)=false:=decide_eq_false (by omega);have H:decide (65<=c)=false:=decide_eq_false (by omega);have I:zJ c=false:=zcW (by omega);have J:(c==95)=false:=beq_eq_false_iff_ne.2 (by omega);have K:(c==36)=false:=beq_eq_false_iff_ne.2 (by omega);clear r;go_enter func189,ntmps189;go_wp2_with (first|(go_at_call 188;refine (zbP _ _ D A).mono ?_;rintro e z ⟨rfl,rfl⟩));go_ret;exact⟨zi h.o.symm,rfl⟩
  ·have h:Hid (zL true c=false):=zes (by simp;omega);have E:decide (97<=c)=false:=decide_eq_false (by omega);have H:decide (65<=c)=false:=decide_eq_false (by omega);have I:zJ c=false:=zcW (by omega);have J:(c==95)=false:=beq_eq_false_iff_ne.2 (by omega);have K:(c==36)=false:=beq_eq_false_iff_ne.2 (by omega);clear r;go_enter func189,ntmps189;go_wp2_with (first|(go_at_call 188;refine (zbP _ _ D A).mono ?_;rintro e z ⟨rfl,rfl⟩));go_ret;exact⟨zi h.o.symm,rfl⟩
 ·cases q
  ·have h:Hid (zL false c=false):=zes (by simp;omega);have E:decide (97<=c)=false:=decide_eq_false (by omega);have H:decide (65<=c)=true:=decide_eq_true (by omega);have L:decide (c<=90)=false:=decide_eq_false (by omega);have I:zJ c=false:=zcW (by omega);have J:(c==95)=false:=beq_eq_false_iff_ne.2 (by omega);have K:(c==36)=false:=beq_eq_false_iff_ne.2 (by omega);clear r;go_enter func189,ntmps189;go_wp2_with (first|(go_at_call 188;refine (zbP _ _ D A).mono ?_;rintro e z ⟨rfl,rfl⟩));go_ret;exact⟨zi h.o.symm,rfl⟩
  ·have h:Hid (zL true c=false):=zes (by simp;omega);have E:decide (97<=c)=false:=decide_eq_false (by omega);have H:decide (65<=c)=true:=decide_eq_true (by omega);have L:decide (c<=90)=false:=decide_eq_false (by omega);have I:zJ c=false:=zcW (by omega);have J:(c==95)=false:=beq_eq_false_iff_ne.2 (by omega);have K:(c==36)=false:=beq_eq_false_iff_ne.2 (by omega);clear r;go_enter func189,ntmps189;go_wp2_with (first|(go_at_call 188;refine (zbP _ _ D A).mono ?_;rintro e z ⟨rfl,rfl⟩));go_ret;exact⟨zi h.o.symm,rfl⟩
 ·cases q
  ·have h:Hid (zL false c=false):=zes (by simp;omega);have E:decide (97<=c)=true:=decide_eq_true (by omega);have N:decide (c<=122)=false:=decide_eq_false (by omega);have H:decide (65<=c)=true:=decide_eq_true (by omega);have L:decide (c<=90)=false:=decide_eq_false (by omega);have I:zJ c=false:=zcW (by omega);have J:(c==95)=false:=beq_eq_false_iff_ne.2 (by omega);have K:(c==36)=false:=beq_eq_false_iff_ne.2 (by omega);clear r;go_enter func189,ntmps189;go_wp2_with (first|(go_at_call 188;refine (zbP _ _ D A).mono ?_;rintro e z ⟨rfl,rfl⟩));go_ret;exact⟨zi h.o.symm,rfl⟩
  ·have h:Hid (zL true c=false):=zes (by simp;omega);have E:decide (97<=c)=true:=decide_eq_true (by omega);have N:decide (c<=122)=false:=decide_eq_false (by omega);have H:decide (65<=c)=true:=decide_eq_true (by omega);have L:decide (c<=90)=false:=decide_eq_false (by omega);have I:zJ c=false:=zcW (by omega);have J:(c==95)=false:=beq_eq_false_iff_ne.2 (by omega);have K:(c==36)=false:=beq_eq_false_iff_ne.2 (by omega);clear r;go_enter func189,ntmps189;go_wp2_with (first|(go_at_call 188;refine (zbP _ _ D A).mono ?_;rintro e z ⟨rfl,rfl⟩));go_ret;exact⟨zi h.o.symm,rfl⟩
def zet (c:Int):Bool:=decide (zbB c)
theorem zgL (c:Int) (w:World) (N:0<=c) (M:c<=255):
  Calls prog 210 #[.int .u8 c] w fun e J=>e= .returned (.bool (zet c))/\J=w:=by
 have z:c<32∨127<=c∨c=34∨c=92∨zbB c:=by unfold zbB;omega
 rcases z with r|r|r|r|r
 ·have q:Hid (zet c=false):=decide_eq_false (fun h=>by unfold zbB at h;omega);have A:decide (32<=c)=false:=decide_eq_false (by omega);clear r;go_enter func210,ntmps210;go_wp2;go_ret;exact⟨zi q.o.symm,rfl⟩
 ·have q:Hid (zet c=false):=decide_eq_false (fun h=>by unfold zbB at h;omega);have A:decide (32<=c)=true:=decide_eq_true (by omega);have H:decide (c<=126)=false:=decide_eq_false (by omega);clear r;go_enter func210,ntmps210;go_wp2;go_ret;exact⟨zi q.o.symm,rfl⟩
 ·have q:Hid (zet c=false):=decide_eq_false (fun h=>by unfold zbB at h;omega);subst r;go_enter func210,ntmps210;go_wp2;go_ret;exact⟨zi q.o.symm,rfl⟩
 ·have q:Hid (zet c=false):=decide_eq_false (fun h=>by unfold zbB at h;omega);subst r;go_enter func210,ntmps210;go_wp2;go_ret;exact⟨zi q.o.symm,rfl⟩
 ·have q:Hid (zet c=true):=decide_eq_true r;obtain⟨K,D,I,E⟩:=r;have A:decide (32<=c)=true:=decide_eq_true (by omega);have H:decide (c<=126)=true:=decide_eq_true (by omega);have L:(c !=34)=true:=bne_iff_ne.2 (by omega);have O:(c !=92)=true:=bne_iff_ne.2 (by omega);clear K D I E;go_enter func210,ntmps210;go_wp2;go_ret;exact⟨zi q.o.symm,rfl⟩
abbrev zeu (c:Int):Prop:=48<=c/\c<=57
def dv (s:BA) (p:Nat):Nat->Int
 |0=>0
 |k+1=>dv s p k*10+(bt s (p+k)-48)
theorem ztX (s:BA) (p k:Nat) (h: ∀j,j<k->zeu (bt s (p+j))):0<=dv s p k/\dv s p k<10^k:=by
 induction k with
 |zero=>simp[dv]
 |succ k q=>
  obtain⟨a,b⟩:=q (fun j w=>h j (by omega));have c:=h k (by omega);unfold zeu at c;rw[dv,zdS];omega
theorem ztY (k:Nat) (h:k<=9):(10:Int)^k<=1000000000:=by
 have:=zfk h;have e:(10:Int)^9=1000000000:=by decide
 omega
def pfx (s:BA):Nat:=if bt s 0=45 then 1 else 0
theorem ztZ (s:BA):pfx s<=s.size:=by
 unfold pfx
 split
 ·rename_i h
  rcases Nat.eq_zero_or_pos s.size with e|e
  ·rw[bt_end s (by omega)] at h;omega
  ·omega
 ·omega
abbrev RdP (s:BA):Prop:=
 1<=s.size-pfx s/\s.size-pfx s<=9/\(∀j,j<s.size-pfx s->zeu (bt s (pfx s+j)))/\(bt s (pfx s)≠48∨(pfx s=0/\s.size=1))
def zeR (s:BA):Bool:=decide (RdP s)
def rdV (s:BA):Int:=if zeR s then (if pfx s=1 then-dv s 1 (s.size-1) else dv s 0 s.size) else 0
theorem zfH {s:BA} (h:RdP s):zeR s=true:=decide_eq_true h
theorem zd5 {s:BA} (h: ¬RdP s):zeR s=false:=decide_eq_false h
theorem zev {s:BA} (h: ¬RdP s):rdV s=0:=by rw[rdV,zd5 h];rfl
def spV (s:BA):Nat->Int
 |0=>0
 |k+1=>if zeu (bt s k) then spV s k*10+(bt s k-48) else spV s k
def spK (s:BA):Nat->Int
 |0=>0
 |k+1=>if zeu (bt s k) then spK s k+1 else spK s k
def spN (s:BA):Int:=if bt s 0=45 then-spV s s.size else spV s s.size
end Go.Proofs.YtgcbmogmniahjaaGreat
