/- Facts and walks that the theorem stands on. -/
import Derived.Test.YtgcbmogmniahjaaGreatProg
import Derived.WalkLawsBesides
import Derived.Test.YtgcbmogmniahjaaGreatA1
namespace Go.Proofs.YtgcbmogmniahjaaGreat
open Go.Proofs.Tryz
set_option maxHeartbeats 3200000
open Go.RowKit Go.PlainAid
theorem zee {c:Int} {q:Bool} (h: ¬((97<=c/\c<=122)∨(65<=c/\c<=90)∨c=95∨(q=true/\c=36))):za2 c q=false:=by
 rw[Bool.eq_false_iff];exact fun k=>h (zdZ.1 k)
theorem zj2 {c:Int} (h: ¬(48<=c/\c<=57)):zK c=false:=decide_eq_false h
theorem zdf (c:Int) (q:Bool) (w:World) (X:0<=c) (V:c<=255):
  Calls prog 146 #[.int .u8 c,.bool q] w fun e w'=>e= .returned (.bool (za2 c q))/\w'=w:=by
 by_cases O:97<=c
 ·by_cases U:c<=122
  ·skip
   have z:decide (97<=c)=true:=decide_eq_true (by omega);have K:decide (c<=122)=true:=decide_eq_true (by omega);have h:Hid (za2 c q=true):=zdZ.2 (by first|omega|(simp;omega));go_enter func146,ntmps146;go_wp2;go_ret;exact⟨zi h.o.symm,rfl⟩
  ·skip
   cases q with
   |true=>
    have z:decide (97<=c)=true:=decide_eq_true (by omega);have K:decide (c<=122)=false:=decide_eq_false (by omega);have A:decide (65<=c)=true:=decide_eq_true (by omega);have J:decide (c<=90)=false:=decide_eq_false (by omega);have H:(c==95)=false:=beq_eq_false_iff_ne.2 (by omega);have I:(c==36)=false:=beq_eq_false_iff_ne.2 (by omega);have h:Hid (za2 c true=false):=zee (by first|omega|(simp;omega));go_enter func146,ntmps146;go_wp2;go_ret;exact⟨zi h.o.symm,rfl⟩
   |false=>
    have z:decide (97<=c)=true:=decide_eq_true (by omega);have K:decide (c<=122)=false:=decide_eq_false (by omega);have A:decide (65<=c)=true:=decide_eq_true (by omega);have J:decide (c<=90)=false:=decide_eq_false (by omega);have H:(c==95)=false:=beq_eq_false_iff_ne.2 (by omega);have I:(c==36)=false:=beq_eq_false_iff_ne.2 (by omega);have h:Hid (za2 c false=false):=zee (by first|omega|(simp;omega));go_enter func146,ntmps146;go_wp2;go_ret;exact⟨zi h.o.symm,rfl⟩
 ·by_cases Y:65<=c
  ·by_cases N:c<=90
   ·skip
    have z:decide (97<=c)=false:=decide_eq_false (by omega);have A:decide (65<=c)=true:=decide_eq_true (by omega);have J:decide (c<=90)=true:=decide_eq_true (by omega);have h:Hid (za2 c q=true):=zdZ.2 (by first|omega|(simp;omega));go_enter func146,ntmps146;go_wp2;go_ret;exact⟨zi h.o.symm,rfl⟩
   ·by_cases M:c=95
    ·skip
     have z:decide (97<=c)=false:=decide_eq_false (by omega);have A:decide (65<=c)=true:=decide_eq_true (by omega);have J:decide (c<=90)=false:=decide_eq_false (by omega);have H:(c==95)=true:=beq_iff_eq.2 (by omega);have h:Hid (za2 c q=true):=zdZ.2 (by first|omega|(simp;omega));clear M;go_enter func146,ntmps146;go_wp2;go_ret;exact⟨zi h.o.symm,rfl⟩
    ·skip
     cases q with
     |true=>
      have z:decide (97<=c)=false:=decide_eq_false (by omega);have A:decide (65<=c)=true:=decide_eq_true (by omega);have J:decide (c<=90)=false:=decide_eq_false (by omega);have H:(c==95)=false:=beq_eq_false_iff_ne.2 (by omega);have I:(c==36)=false:=beq_eq_false_iff_ne.2 (by omega);have h:Hid (za2 c true=false):=zee (by first|omega|(simp;omega));go_enter func146,ntmps146;go_wp2;go_ret;exact⟨zi h.o.symm,rfl⟩
     |false=>
      have z:decide (97<=c)=false:=decide_eq_false (by omega);have A:decide (65<=c)=true:=decide_eq_true (by omega);have J:decide (c<=90)=false:=decide_eq_false (by omega);have H:(c==95)=false:=beq_eq_false_iff_ne.2 (by omega);have I:(c==36)=false:=beq_eq_false_iff_ne.2 (by omega);have h:Hid (za2 c false=false):=zee (by first|omega|(simp;omega));go_enter func146,ntmps146;go_wp2;go_ret;exact⟨zi h.o.symm,rfl⟩
  ·by_cases L:c=36
   ·skip
    cases q with
    |true=>
     have z:decide (97<=c)=false:=decide_eq_false (by omega);have A:decide (65<=c)=false:=decide_eq_false (by omega);have H:(c==95)=false:=beq_eq_false_iff_ne.2 (by omega);have I:(c==36)=true:=beq_iff_eq.2 (by omega);have h:Hid (za2 c true=true):=zdZ.2 (by first|omega|(simp;omega));clear L;go_enter func146,ntmps146;go_wp2;go_ret;exact⟨zi h.o.symm,rfl⟩
    |false=>
     have z:decide (97<=c)=false:=decide_eq_false (by omega);have A:decide (65<=c)=false:=decide_eq_false (by omega);have H:(c==95)=false:=beq_eq_false_iff_ne.2 (by omega);have I:(c==36)=true:=beq_iff_eq.2 (by omega);have h:Hid (za2 c false=false):=zee (by first|omega|(simp;omega));clear L;go_enter func146,ntmps146;go_wp2;go_ret;exact⟨zi h.o.symm,rfl⟩
   ·skip
    cases q with
    |true=>
     have z:decide (97<=c)=false:=decide_eq_false (by omega);have A:decide (65<=c)=false:=decide_eq_false (by omega);have H:(c==95)=false:=beq_eq_false_iff_ne.2 (by omega);have I:(c==36)=false:=beq_eq_false_iff_ne.2 (by omega);have h:Hid (za2 c true=false):=zee (by first|omega|(simp;omega));go_enter func146,ntmps146;go_wp2;go_ret;exact⟨zi h.o.symm,rfl⟩
    |false=>
     have z:decide (97<=c)=false:=decide_eq_false (by omega);have A:decide (65<=c)=false:=decide_eq_false (by omega);have H:(c==95)=false:=beq_eq_false_iff_ne.2 (by omega);have I:(c==36)=false:=beq_eq_false_iff_ne.2 (by omega);have h:Hid (za2 c false=false):=zee (by first|omega|(simp;omega));go_enter func146,ntmps146;go_wp2;go_ret;exact⟨zi h.o.symm,rfl⟩
theorem zcq (c:Int) (w:World) (J:0<=c) (I:c<=255):
  Calls prog 148 #[.int .u8 c] w fun e w'=>e= .returned (.bool (zK c))/\w'=w:=by
 by_cases q:48<=c
 ·have H:decide (48<=c)=true:=decide_eq_true q;by_cases z:c<=57
  ·have A:decide (c<=57)=true:=decide_eq_true z;have h:Hid (zK c=true):=zcN.2 ⟨q,z⟩;go_enter func148,ntmps148;go_wp2;go_ret;exact⟨zi h.o.symm,rfl⟩
  ·have A:decide (c<=57)=false:=decide_eq_false z;have h:Hid (zK c=false):=zj2 (by omega);go_enter func148,ntmps148;go_wp2;go_ret;exact⟨zi h.o.symm,rfl⟩
 ·have H:decide (48<=c)=false:=decide_eq_false q;have h:Hid (zK c=false):=zj2 (by omega);go_enter func148,ntmps148;go_wp2;go_ret;exact⟨zi h.o.symm,rfl⟩
def signS:BA:={data:=#[123,125,40,41,44,59,61,46,42,43,45]}
theorem znL (k:Nat) (h:k<11):zbo (bt signS k):=by
 have: ∀k:Fin 11,zbo (bt signS k.val):=by decide
 exact this ⟨k,h⟩
theorem znM (c:Int) (h:zbo c): ∃k,k<11/\bt signS k=c:=by
 rcases h with rfl|rfl|rfl|rfl|rfl|rfl|rfl|rfl|rfl|rfl|rfl
 ·exact⟨0,by decide⟩
 ·exact⟨1,by decide⟩
 ·exact⟨2,by decide⟩
 ·exact⟨3,by decide⟩
 ·exact⟨4,by decide⟩
 ·exact⟨5,by decide⟩
 ·exact⟨6,by decide⟩
 ·exact⟨7,by decide⟩
 ·exact⟨8,by decide⟩
 ·exact⟨9,by decide⟩
 ·exact⟨10,by decide⟩
def zfv (c:Int):Bool:=decide (zbo c)
theorem zj3 (c:Int) (w:World):
  Calls prog 151 #[.int .u8 c] w fun e w'=>e= .returned (.bool (zfv c))/\w'=w:=by
 have O:=get_bt signS;have L:signS.size=11:=rfl;obtain⟨S,H⟩: ∃S,signS=S:=⟨_,rfl⟩;have M:Hid (signS=S):=H;rw[H] at O L;go_enter func151,ntmps151;go_wp2;rw[show ({data:=#[123,125,40,41,44,59,61,46,42,43,45]}:BA)=S from H];clear H;go_loop [4] (fun i=>∃k:Nat,k<=11/\i= .int .i64 k/\∀j,j<k->bt S j≠c) (fun i=>(11-intOf i).toNat)
 case atStart=>exact⟨0,by omega,rfl,fun j J=>absurd J (Nat.not_lt_zero j)⟩
 case round=>
  obtain⟨k,V,rfl,z⟩:=hrel;have A:Hid (∀j,j<k->bt S j≠c):=z;clear z;by_cases I:k<11
  ·by_cases q:bt S k=c
   ·have N:(bt S k==c)=true:=by simpa using q
    have K:Hid (zfv c=true):=decide_eq_true (by rw[<-q,<-M.o];exact znL k I);clear q;go_wp2;go_ret;exact⟨zi K.o.symm,rfl⟩
   ·have N:(bt S k==c)=false:=by simpa using q
    have U:Hid (∀j,j<k+1->bt S j≠c):=fun j J=>by
     by_cases e:j=k
     ·rw[e];exact q
     ·exact A.o j (by omega)
    clear q;go_wp2;go_round
    case rel=>exact⟨k+1,by omega,by go_num,U.o⟩
    case measure=>simp[intOf];omega
  ·have K:Hid (zfv c=false):=decide_eq_false (fun h=>by
    obtain⟨j,J,e⟩:=znM c h;rw[M.o] at e
    exact A.o j (by omega) e)
   go_wp2;go_ret;exact⟨zi K.o.symm,rfl⟩
theorem znN {c:Int} {q:Bool} (h:za2 c q=true):zM q c=true:=by simp[zM,h]
theorem znO {c:Int} {q:Bool} (h:zK c=true):zM q c=true:=by simp[zM,h]
theorem znP {c:Int} {q:Bool} (h:za2 c q=false) (k:zK c=false):zM q c=false:=by simp[zM,h,k]
theorem zfw {p:Int->Bool} {s:BA} {a k:Nat} (h: ∀j,a<=j->j<k->p (bt s j)=true) (q:p (bt s k)=true): ∀j,a<=j->j<k+1->p (bt s j)=true:=by
 intro j w z;by_cases e:j=k
 ·rw[e];exact q
 ·exact h j w (by omega)
theorem znQ (s:BA) (a:Nat) (q:Bool) (w:World) (V:a<=s.size) (hs:s.size<=4294967296):
  Calls prog 147 #[.string s,.int .i64 a,.bool q] w fun e w'=>∃n:Nat,e= .returned (.int .i64 n)/\za3 (zM q) s a n/\w'=w:=by
 have Z:=get_bt s;go_enter func147,ntmps147;go_wp2;go_loop [1] (fun i=>∃k:Nat,a<=k/\k<=s.size/\i= .int .i64 k/\∀j,a<=j->j<k->zM q (bt s j)=true) (fun i=>(s.size-intOf i).toNat)
 case atStart=>exact⟨a,Nat.le_refl _,V,rfl,fun j Y X=>by omega⟩
 case round=>
  obtain⟨k,K,J,rfl,I⟩:=hrel;have H:Hid (∀j,a<=j->j<k->zM q (bt s j)=true):=I;clear I;by_cases L:k<s.size
  ·have z:=bt_nonneg s k;have A:=bt_le s k;cases U:za2 (bt s k) q with
   |true=>
    have N:Hid (∀j,a<=j->j<k+1->zM q (bt s j)=true):=zfw H.o (znN U);go_wp2_with (first|(go_at_call 146;refine (zdf _ _ _ z A).mono ?_;rintro e w' ⟨rfl,rfl⟩)|(go_at_call 148;refine (zcq _ _ z A).mono ?_;rintro e w' ⟨rfl,rfl⟩));go_round
    case rel=>exact⟨k+1,by omega,by omega,by go_num,N.o⟩
    case measure=>simp[intOf];omega
   |false=>
    cases O:zK (bt s k) with
    |true=>
     have N:Hid (∀j,a<=j->j<k+1->zM q (bt s j)=true):=zfw H.o (znO O);go_wp2_with (first|(go_at_call 146;refine (zdf _ _ _ z A).mono ?_;rintro e w' ⟨rfl,rfl⟩)|(go_at_call 148;refine (zcq _ _ z A).mono ?_;rintro e w' ⟨rfl,rfl⟩));go_round
     case rel=>exact⟨k+1,by omega,by omega,by go_num,N.o⟩
     case measure=>simp[intOf];omega
    |false=>
     have M:Hid (za3 (zM q) s a k):=⟨K,J,H.o,fun _=>znP U O⟩;go_wp2_with (first|(go_at_call 146;refine (zdf _ _ _ z A).mono ?_;rintro e w' ⟨rfl,rfl⟩)|(go_at_call 148;refine (zcq _ _ z A).mono ?_;rintro e w' ⟨rfl,rfl⟩));go_ret;exact⟨k,rfl,M.o,rfl⟩
  ·have M:Hid (za3 (zM q) s a k):=⟨K,J,H.o,fun h=>absurd h L⟩;go_wp2;go_ret;exact⟨k,rfl,M.o,rfl⟩
theorem zgk {s:BA} {a k:Nat} (q: ∀j,a<j->j<k->zbD (bt s j)) (h:s.size<=k∨a+42<=k): ∀e,¬zb0 s a e:=by
 intro e ⟨h1,h2,h3,h4,_⟩;exact absurd h4 (q (e-1) (by omega) (by omega)).2.2.1
theorem zgl {s:BA} {a k:Nat} (z:a<k) (q: ∀j,a<j->j<k->zbD (bt s j)) (w:bt s k≠34) (h: ¬zbD (bt s k)): ∀e,¬zb0 s a e:=by
 intro e ⟨h1,h2,h3,h4,h5⟩;rcases Nat.lt_trichotomy (e-1) k with g|g|g
 ·exact absurd h4 (q (e-1) (by omega) g).2.2.1
 ·rw[g] at h4;exact w h4
 ·exact h (h5 k z (by omega))
theorem znR (s:BA) (a:Nat) (w:World) (ha:a<s.size) (hs:s.size<=4294967296):
  Calls prog 150 #[.string s,.int .i64 a] w fun e w'=>∃z:Int,e= .returned (.int .i64 z)/\((∃n:Nat,z=n/\zb0 s a n)∨(z= -1/\∀n,¬zb0 s a n))/\w'=w:=by
 have hb:=get_bt s;go_enter func150,ntmps150;go_wp2;go_loop [5] (fun i=>∃k:Nat,a<k/\k<=s.size/\k<=a+42/\i= .int .i64 k/\∀j,a<j->j<k->zbD (bt s j)) (fun i=>(s.size-intOf i).toNat)
 case atStart=>exact⟨a+1,by omega,by omega,by omega,by go_num,fun j K M=>by omega⟩
 case round=>
  obtain⟨k,I,Y,ab,rfl,L⟩:=hrel;have A:Hid (∀j,a<j->j<k->zbD (bt s j)):=L;clear L;by_cases V:k<s.size
  ·have aa:=bt_nonneg s k;have ac:=bt_le s k;by_cases U:k<=a+41
   ·have X:decide ((k:Int)<=(a:Int)+1+40)=true:=decide_eq_true (by omega);by_cases q:bt s k=34
    ·have HE:Hid (zb0 s a (k+1)):=⟨by omega,by omega,by omega,by rw[Nat.add_sub_cancel];exact q,fun j K M=>A.o j K (by omega)⟩;have N:(bt s k==34)=true:=by simpa using q
     clear q;go_wp2;go_ret;exact⟨(k:Int)+1,rfl,.inl ⟨k+1,by omega,HE.o⟩,rfl⟩
    ·have N:(bt s k==34)=false:=by simpa using q
     by_cases K:bt s k<32
     ·have H:Hid (∀e,¬zb0 s a e):=zgl I A.o q (fun h=>by have:=h.1;omega);have Z:decide (bt s k<32)=true:=decide_eq_true K;clear q;go_wp2;go_ret;exact⟨-1,rfl,.inr ⟨rfl,H.o⟩,rfl⟩
     ·have Z:decide (bt s k<32)=false:=decide_eq_false K;by_cases M:126<bt s k
      ·have H:Hid (∀e,¬zb0 s a e):=zgl I A.o q (fun h=>by have:=h.2.1;omega);have q2:decide (126<bt s k)=true:=decide_eq_true M;clear q;go_wp2;go_ret;exact⟨-1,rfl,.inr ⟨rfl,H.o⟩,rfl⟩
      ·have q2:decide (126<bt s k)=false:=decide_eq_false M;by_cases J:bt s k=92
       ·have H:Hid (∀e,¬zb0 s a e):=zgl I A.o q (fun h=>h.2.2.2 J);have O:(bt s k==92)=true:=by simpa using J
        clear q J N;have N:(bt s k==34)=false:=beq_eq_false_iff_ne.2 (by have:=beq_iff_eq.1 O;omega);go_wp2;go_ret;exact⟨-1,rfl,.inr ⟨rfl,H.o⟩,rfl⟩
       ·have O:(bt s k==92)=false:=by simpa using J
        have HX:Hid (∀j,a<j->j<k+1->zbD (bt s j)):=fun j g1 g2=>by
         by_cases e:j=k
         ·rw[e];exact⟨by omega,by omega,q,J⟩
         ·exact A.o j g1 (by omega)
        clear q J;go_wp2;go_round
        case rel=>exact⟨k+1,by omega,by omega,by omega,by go_num,HX.o⟩
        case measure=>simp[intOf];omega
   ·have H:Hid (∀e,¬zb0 s a e):=zgk A.o (.inr (by omega));have X:decide ((k:Int)<=(a:Int)+1+40)=false:=decide_eq_false (by omega);go_wp2;go_ret;exact⟨-1,rfl,.inr ⟨rfl,H.o⟩,rfl⟩
  ·have H:Hid (∀e,¬zb0 s a e):=zgk A.o (.inl (by omega));go_wp2;go_ret;exact⟨-1,rfl,.inr ⟨rfl,H.o⟩,rfl⟩
theorem zj4 {s:BA} {a k e:Nat} {z:Bool} {n:Int} (w: ∀j,a<=j->j<k->zK (bt s j)=true) (h:zba s a z n e):k<=e∨e<k/\s.size<=e:=by
 obtain⟨⟨H,I,K,A⟩,J,_⟩:=h;rcases Nat.lt_or_ge e k with g|g
 ·right;refine⟨g,?_⟩;rcases Nat.lt_or_ge e s.size with q|q
  ·have:=w e H g;rw[A q] at this;cases this
  ·exact q
 ·exact .inl g
theorem znS {s:BA} {a k:Nat} {w:Bool} (H:a<k) (z:k<s.size) (q: ∀j,a<=j->j<k+1->zK (bt s j)=true) (A:bt s a=48): ∀n e,¬zba s a w n e:=by
 intro n e h;have I:=zj4 q h;rcases h.2.2.1 with g|g
 ·omega
 ·exact g A
theorem znT {s:BA} {a k:Nat} {w:Bool} (A:a<=k) (z:k<s.size) (q: ∀j,a<=j->j<k+1->zK (bt s j)=true) (M:1000000<zbE s a (k+1-a)): ∀n e,¬zba s a w n e:=by
 intro n e h;have K:=zj4 q h;have I:=zjh (s:=s) (a:=a) (k+1-a) (e-a) (fun j H=>(zcN.1 (h.1.2.2.1 (a+j) (by omega) (by omega))).1) (by omega);have L:=h.2.2.2.1;have J:=h.2.2.2.2.1;omega
theorem znU {s:BA} {a k:Nat} {q:Bool} (H:za3 zK s a k) (z:k<s.size) (A:za2 (bt s k) q=true): ∀n e,¬zba s a q n e:=by
 intro n e h;have:=zfm H h.1;subst this;have w:=h.2.2.2.2.2 z;rw[A] at w;cases w
theorem znV (s:BA) (a:Nat) (q:Bool) (w:World) (ha:a<s.size) (Z:zK (bt s a)=true) (hs:s.size<=4294967296):
  Calls prog 149 #[.string s,.int .i64 a,.bool q] w fun e w'=>∃n z:Int,e= .returned (.tuple #[.int .i64 n,.int .i64 z])/\((∃m:Nat,z=m/\zba s a q n m)∨(n=0/\z= -1/\∀n m,¬zba s a q n m))/\w'=w:=by
 have hb:=get_bt s;have aa:Hid (zK (bt s a)=true):=Z;clear Z;go_enter func149,ntmps149;go_wp2;go_loop [8,9] (fun n i=>∃(k:Nat) (v:Int),a<=k/\k<=s.size/\i= .int .i64 k/\n= .int .i64 v/\v=zbE s a (k-a)/\0<=v/\v<=1000000/\(k<=a+1∨bt s a≠48)/\∀j,a<=j->j<k->zK (bt s j)=true) (fun _ i=>(s.size-intOf i).toNat)
 case atStart=>exact⟨a,0,Nat.le_refl _,by omega,rfl,rfl,by rw[Nat.sub_self];rfl,by omega,by omega,.inl (by omega),fun j h1 h2=>by omega⟩
 case round=>
  obtain⟨k,v,L,U,rfl,rfl,hv,ae,V,hz,Y⟩:=hrel;have M:Hid (∀j,a<=j->j<k->zK (bt s j)=true):=Y;have HV:Hid (v=zbE s a (k-a)):=hv;have HZ:Hid (k<=a+1∨bt s a≠48):=hz;clear Y hv hz;by_cases K:k<s.size
  ·have A:=bt_nonneg s k;have H:=bt_le s k;cases O:zK (bt s k) with
   |true=>
    have ab:=zcN.1 O;obtain⟨ad,ac⟩:=ab;have HX:Hid (∀j,a<=j->j<k+1->zK (bt s j)=true):=zfw M.o O;by_cases I:a<k/\bt s a=48
    ·obtain⟨z1,z2⟩:=I;have N:Hid (∀n e,¬zba s a q n e):=znS z1 K HX.o z2;have q1:(bt s a==48)=true:=by simpa using z2
     clear z2;go_wp2_with (first|(go_at_call 148;refine (zcq _ _ A H).mono ?_;rintro e w' ⟨rfl,rfl⟩));go_ret2;exact⟨0,-1,rfl,.inr ⟨rfl,rfl,N.o⟩,rfl⟩
    ·have HD:Hid (zbE s a (k+1-a)=v*10+(bt s k-48)):=by
      show zbE s a (k+1-a)=_;rw[show k+1-a=(k-a)+1 from by omega,zbE,<-HV.o,show a+(k-a)=k from by omega]
     have X:Hid (k+1<=a+1∨bt s a≠48):=by
      rcases Nat.lt_or_ge a k with g|g
      ·exact .inr fun h=>I ⟨g,h⟩
      ·exact .inl (by omega)
     by_cases hg:1000000<v*10+(bt s k-48)
     ·have N:Hid (∀n e,¬zba s a q n e):=znT L K HX.o (by rw[HD.o];exact hg);by_cases J:a<k
      ·have q1:(bt s a==48)=false:=beq_eq_false_iff_ne.2 (fun h=>I ⟨J,h⟩);clear I;go_wp2_with (first|(go_at_call 148;refine (zcq _ _ A H).mono ?_;rintro e w' ⟨rfl,rfl⟩));go_ret2;exact⟨0,-1,rfl,.inr ⟨rfl,rfl,N.o⟩,rfl⟩
      ·clear I;go_wp2_with (first|(go_at_call 148;refine (zcq _ _ A H).mono ?_;rintro e w' ⟨rfl,rfl⟩));go_ret2;exact⟨0,-1,rfl,.inr ⟨rfl,rfl,N.o⟩,rfl⟩
     ·by_cases J:a<k
      ·have q1:(bt s a==48)=false:=beq_eq_false_iff_ne.2 (fun h=>I ⟨J,h⟩);clear I;go_wp2_with (first|(go_at_call 148;refine (zcq _ _ A H).mono ?_;rintro e w' ⟨rfl,rfl⟩));go_round
       case rel=>exact⟨k+1,v*10+(bt s k-48),by omega,by omega,by go_num,by go_num,HD.o.symm,by omega,by omega,X.o,HX.o⟩
       case measure=>simp[intOf];omega
      ·clear I;go_wp2_with (first|(go_at_call 148;refine (zcq _ _ A H).mono ?_;rintro e w' ⟨rfl,rfl⟩));go_round
       case rel=>exact⟨k+1,v*10+(bt s k-48),by omega,by omega,by go_num,by go_num,HD.o.symm,by omega,by omega,X.o,HX.o⟩
       case measure=>simp[intOf];omega
   |false=>
    have HR:Hid (za3 zK s a k):=⟨L,U,M.o,fun _=>O⟩;have J:a<k:=by
     rcases Nat.lt_or_ge a k with g|g
     ·exact g
     ·have e:k=a:=by omega
      rw[e,aa.o] at O;cases O
    cases hl:za2 (bt s k) q with
    |true=>
     have N:Hid (∀n e,¬zba s a q n e):=znU HR.o K hl;go_wp2_with (first|(go_at_call 146;refine (zdf _ _ _ A H).mono ?_;rintro e w' ⟨rfl,rfl⟩)|(go_at_call 148;refine (zcq _ _ A H).mono ?_;rintro e w' ⟨rfl,rfl⟩));go_ret2;exact⟨0,-1,rfl,.inr ⟨rfl,rfl,N.o⟩,rfl⟩
    |false=>
     have HA:Hid (zba s a q v k):=⟨HR.o,J,HZ.o.imp (fun g=>by omega) id,HV.o,V,fun _=>hl⟩;go_wp2_with (first|(go_at_call 146;refine (zdf _ _ _ A H).mono ?_;rintro e w' ⟨rfl,rfl⟩)|(go_at_call 148;refine (zcq _ _ A H).mono ?_;rintro e w' ⟨rfl,rfl⟩));go_ret2;exact⟨v,k,rfl,.inl ⟨k,rfl,HA.o⟩,rfl⟩
  ·have J:a<k:=by omega
   have HA:Hid (zba s a q v k):=⟨⟨L,U,M.o,fun h=>absurd h K⟩,J,HZ.o.imp (fun g=>by omega) id,HV.o,V,fun h=>absurd h K⟩;go_wp2;go_ret2;exact⟨v,k,rfl,.inl ⟨k,rfl,HA.o⟩,rfl⟩
theorem zj5 (s:BA) (a:Nat) (w:World) (ha:a<=s.size) (hs:s.size<=4294967296):
  Calls prog 111 #[.string s,.int .i64 a] w fun e w'=>∃n:Nat,e= .returned (.int .i64 n)/\Skip s a n/\w'=w:=by
 have hb:=get_bt s;go_enter func111,ntmps111;go_wp2;go_loop [1,5] (fun i _=>∃k:Nat,k<=s.size/\i= .int .i64 k/\∀c,Skip s k c->Skip s a c) (fun i _=>(s.size-intOf i).toNat)
 case atStart=>exact⟨a,ha,rfl,fun c h=>h⟩
 case round=>
  obtain⟨k,hk,rfl,U⟩:=hrel;have J:Hid (∀c,Skip s k c->Skip s a c):=U;clear U;by_cases K:k<s.size
  ·have ai:=bt_nonneg s k;have aj:=bt_le s k;by_cases z:zcC (bt s k)
   ·have O:Hid (∀c,Skip s (k+1) c->Skip s a c):=fun c h=>J.o c (.blank K z h);have ac:bt s k=9∨bt s k=10∨bt s k=13∨bt s k=32:=z;clear z;rcases ac with q|q|q|q
    all_goals
     go_wp2;go_round
     case rel=>exact⟨k+1,by omega,by go_num,O.o⟩
     case measure=>simp[intOf];omega
   ·have e1:(bt s k==9)=false:=beq_eq_false_iff_ne.2 (fun h=>z (.inl h));have e2:(bt s k==10)=false:=beq_eq_false_iff_ne.2 (fun h=>z (.inr (.inl h)));have e3:(bt s k==13)=false:=beq_eq_false_iff_ne.2 (fun h=>z (.inr (.inr (.inl h))));have e4:(bt s k==32)=false:=beq_eq_false_iff_ne.2 (fun h=>z (.inr (.inr (.inr h))));by_cases H:zcz s k
    ·obtain⟨I,Z,s3⟩:=H;have V:Hid (zcz s k):=⟨I,Z,s3⟩;have q1:(bt s k !=47)=false:=by simp[I]
     have q2:(bt s (k+1) !=47)=false:=by simp[s3]
     have ae:=bt_nonneg s (k+1);have aa:=bt_le s (k+1);have ad:Hid (bt s k≠10):=by show bt s k≠10;rw[I];omega
     clear I s3 z;go_wp2;go_loop [1] (fun i=>∃m:Nat,k<=m/\m<=s.size/\i= .int .i64 m/\∀j,k<=j->j<m->zbz (bt s j)=true) (fun i=>(s.size-intOf i).toNat)
     case atStart=>exact⟨k,Nat.le_refl _,hk,rfl,fun j h1 h2=>by omega⟩
     case round=>
      obtain⟨m,X,L,rfl,Y⟩:=hrel;have N:Hid (∀j,k<=j->j<m->zbz (bt s j)=true):=Y;clear Y;by_cases ab:m<s.size
      ·have ag:=bt_nonneg s m;have ah:=bt_le s m;by_cases A:bt s m=10
       ·have af:k<m:=by
         rcases Nat.lt_or_ge k m with g|g
         ·exact g
         ·have e:m=k:=by omega
          rw[e] at A;exact absurd A ad.o
        have M:Hid (za3 zbz s k m):=⟨X,L,N.o,fun _=>by simp[zbz,A]⟩;have O:Hid (∀c,Skip s m c->Skip s a c):=fun c h=>J.o c (.comment K V.o M.o h);have r1:(bt s m !=10)=false:=by simp[A]
        clear A;go_wp2;go_round
        case rel=>exact⟨m,L,rfl,O.o⟩
        case measure=>simp[intOf];omega
       ·have O:Hid (∀j,k<=j->j<m+1->zbz (bt s j)=true):=zfw N.o (by simp[zbz,A]);have r1:(bt s m !=10)=true:=by simpa using A
        clear A;go_wp2;go_round
        case rel=>exact⟨m+1,by omega,by omega,by go_num,O.o⟩
        case measure=>simp[intOf];omega
      ·have M:Hid (za3 zbz s k m):=⟨X,L,N.o,fun h=>absurd h ab⟩;have O:Hid (∀c,Skip s m c->Skip s a c):=fun c h=>J.o c (.comment K V.o M.o h);go_wp2;go_round
       case rel=>exact⟨m,L,rfl,O.o⟩
       case measure=>simp[intOf];omega
    ·have M:Hid (Skip s a k):=J.o k (.stop K z H);clear z;by_cases I:bt s k=47
     ·have q1:(bt s k !=47)=false:=by simp[I]
      by_cases Z:k+1<s.size
      ·have q2:(bt s (k+1) !=47)=true:=by simpa using fun h=>H ⟨I,Z,h⟩
       have ae:=bt_nonneg s (k+1);have aa:=bt_le s (k+1);clear I H;go_wp2;go_ret;exact⟨k,rfl,M.o,rfl⟩
      ·clear I H;go_wp2;go_ret;exact⟨k,rfl,M.o,rfl⟩
     ·have q1:(bt s k !=47)=true:=by simpa using I
      clear I H;go_wp2;go_ret;exact⟨k,rfl,M.o,rfl⟩
  ·have M:Hid (Skip s a k):=J.o k (by rw[show k=s.size from by omega];exact .done);go_wp2;go_ret;exact⟨k,rfl,M.o,rfl⟩
end Go.Proofs.YtgcbmogmniahjaaGreat
namespace Go.Proofs.YtgcbmogmniahjaaGreat
open Go.Proofs.Tryz
set_option maxHeartbeats 1600000
open Go.RowKit Go.PlainAid
theorem zdb {c:Int} (h: ¬(48<=c/\c<=57)):zK c=false:=decide_eq_false h
theorem zeX {c:Int} {h:Bool}:zM h c=true↔(97<=c/\c<=122)∨(65<=c/\c<=90)∨c=95∨(h=true/\c=36)∨(48<=c/\c<=57):=by rw[zM,Bool.or_eq_true,zdZ,zcN];simp only[or_assoc]
theorem ze0 {c:Int} {q:Bool} (h: ¬((97<=c/\c<=122)∨(65<=c/\c<=90)∨c=95∨(q=true/\c=36)∨(48<=c/\c<=57))):zM q c=false:=Bool.eq_false_iff.2 fun e=>h (zeX.1 e)
theorem zbS (c:Int) (w:World) (_:0<=c) (_:c<=255):
  Calls prog 188 #[.int .u8 c] w fun e w'=>e= .returned (.bool (zK c))/\w'=w:=by
 by_cases A:48<=c
 ·by_cases H:c<=57
  ·have h:Hid (zK c=true):=zcN.2 ⟨A,H⟩;have q:decide (48<=c)=true:=decide_eq_true (by omega);have z:decide (c<=57)=true:=decide_eq_true (by omega);go_enter func188,ntmps188;go_wp2;go_ret;exact⟨zi h.o.symm,rfl⟩
  ·have h:Hid (zK c=false):=zdb (by omega);have q:decide (48<=c)=true:=decide_eq_true (by omega);have z:decide (c<=57)=false:=decide_eq_false (by omega);go_enter func188,ntmps188;go_wp2;go_ret;exact⟨zi h.o.symm,rfl⟩
 ·have h:Hid (zK c=false):=zdb (by omega);have q:decide (48<=c)=false:=decide_eq_false (by omega);go_enter func188,ntmps188;go_wp2;go_ret;exact⟨zi h.o.symm,rfl⟩
theorem zeY (c:Int) (q:Bool) (w:World) (A:0<=c) (z:c<=255):
  Calls prog 189 #[.int .u8 c,.bool q] w fun e w'=>e= .returned (.bool (zM q c))/\w'=w:=by
 have N:(97<=c/\c<=122)∨(65<=c/\c<=90)∨(48<=c/\c<=57)∨c=95∨c=36∨(c<65/\¬(48<=c/\c<=57)/\c≠36)∨(91<=c/\c<=96/\c≠95)∨123<=c:=by omega
 rcases N with r|r|r|r|r|r|r|r
 ·have h:Hid (zM q c=true):=zeX.2 (by omega);have H:decide (97<=c)=true:=decide_eq_true (by omega);have O:decide (c<=122)=true:=decide_eq_true (by omega);clear r;go_enter func189,ntmps189;go_wp2_with (first|(go_at_call 188;refine (zbS _ _ A z).mono ?_;rintro e w' ⟨rfl,rfl⟩));go_ret;exact⟨zi h.o.symm,rfl⟩
 ·have h:Hid (zM q c=true):=zeX.2 (by omega);have H:decide (97<=c)=false:=decide_eq_false (by omega);have I:decide (65<=c)=true:=decide_eq_true (by omega);have M:decide (c<=90)=true:=decide_eq_true (by omega);clear r;go_enter func189,ntmps189;go_wp2_with (first|(go_at_call 188;refine (zbS _ _ A z).mono ?_;rintro e w' ⟨rfl,rfl⟩));go_ret;exact⟨zi h.o.symm,rfl⟩
 ·have h:Hid (zM q c=true):=zeX.2 (by omega);have H:decide (97<=c)=false:=decide_eq_false (by omega);have I:decide (65<=c)=false:=decide_eq_false (by omega);have J:zK c=true:=zcN.2 r;clear r;go_enter func189,ntmps189;go_wp2_with (first|(go_at_call 188;refine (zbS _ _ A z).mono ?_;rintro e w' ⟨rfl,rfl⟩));go_ret;exact⟨zi h.o.symm,rfl⟩
 ·have h:Hid (zM q c=true):=zeX.2 (by omega);have H:decide (97<=c)=false:=decide_eq_false (by omega);have I:decide (65<=c)=true:=decide_eq_true (by omega);have M:decide (c<=90)=false:=decide_eq_false (by omega);have J:zK c=false:=zdb (by omega);have K:(c==95)=true:=beq_iff_eq.2 (by omega);clear r;go_enter func189,ntmps189;go_wp2_with (first|(go_at_call 188;refine (zbS _ _ A z).mono ?_;rintro e w' ⟨rfl,rfl⟩));go_ret;exact⟨zi h.o.symm,rfl⟩
 ·cases q
  ·have h:Hid (zM false c=false):=ze0 (by simp;omega);have H:decide (97<=c)=false:=decide_eq_false (by omega);have I:decide (65<=c)=false:=decide_eq_false (by omega);have J:zK c=false:=zdb (by omega);have K:(c==95)=false:=beq_eq_false_iff_ne.2 (by omega);have L:(c==36)=true:=beq_iff_eq.2 (by omega);clear r;go_enter func189,ntmps189;go_wp2_with (first|(go_at_call 188;refine (zbS _ _ A z).mono ?_;rintro e w' ⟨rfl,rfl⟩));go_ret;exact⟨zi h.o.symm,rfl⟩
  ·have h:Hid (zM true c=true):=zeX.2 (by simp;omega);have H:decide (97<=c)=false:=decide_eq_false (by omega);have I:decide (65<=c)=false:=decide_eq_false (by omega);have J:zK c=false:=zdb (by omega);have K:(c==95)=false:=beq_eq_false_iff_ne.2 (by omega);have L:(c==36)=true:=beq_iff_eq.2 (by omega);clear r;go_enter func189,ntmps189;go_wp2_with (first|(go_at_call 188;refine (zbS _ _ A z).mono ?_;rintro e w' ⟨rfl,rfl⟩));go_ret;exact⟨zi h.o.symm,rfl⟩
 ·cases q
  ·have h:Hid (zM false c=false):=ze0 (by simp;omega);have H:decide (97<=c)=false:=decide_eq_false (by omega);have I:decide (65<=c)=false:=decide_eq_false (by omega);have J:zK c=false:=zdb (by omega);have K:(c==95)=false:=beq_eq_false_iff_ne.2 (by omega);have L:(c==36)=false:=beq_eq_false_iff_ne.2 (by omega);clear r;go_enter func189,ntmps189;go_wp2_with (first|(go_at_call 188;refine (zbS _ _ A z).mono ?_;rintro e w' ⟨rfl,rfl⟩));go_ret;exact⟨zi h.o.symm,rfl⟩
  ·have h:Hid (zM true c=false):=ze0 (by simp;omega);have H:decide (97<=c)=false:=decide_eq_false (by omega);have I:decide (65<=c)=false:=decide_eq_false (by omega);have J:zK c=false:=zdb (by omega);have K:(c==95)=false:=beq_eq_false_iff_ne.2 (by omega);have L:(c==36)=false:=beq_eq_false_iff_ne.2 (by omega);clear r;go_enter func189,ntmps189;go_wp2_with (first|(go_at_call 188;refine (zbS _ _ A z).mono ?_;rintro e w' ⟨rfl,rfl⟩));go_ret;exact⟨zi h.o.symm,rfl⟩
 ·cases q
  ·have h:Hid (zM false c=false):=ze0 (by simp;omega);have H:decide (97<=c)=false:=decide_eq_false (by omega);have I:decide (65<=c)=true:=decide_eq_true (by omega);have M:decide (c<=90)=false:=decide_eq_false (by omega);have J:zK c=false:=zdb (by omega);have K:(c==95)=false:=beq_eq_false_iff_ne.2 (by omega);have L:(c==36)=false:=beq_eq_false_iff_ne.2 (by omega);clear r;go_enter func189,ntmps189;go_wp2_with (first|(go_at_call 188;refine (zbS _ _ A z).mono ?_;rintro e w' ⟨rfl,rfl⟩));go_ret;exact⟨zi h.o.symm,rfl⟩
  ·have h:Hid (zM true c=false):=ze0 (by simp;omega);have H:decide (97<=c)=false:=decide_eq_false (by omega);have I:decide (65<=c)=true:=decide_eq_true (by omega);have M:decide (c<=90)=false:=decide_eq_false (by omega);have J:zK c=false:=zdb (by omega);have K:(c==95)=false:=beq_eq_false_iff_ne.2 (by omega);have L:(c==36)=false:=beq_eq_false_iff_ne.2 (by omega);clear r;go_enter func189,ntmps189;go_wp2_with (first|(go_at_call 188;refine (zbS _ _ A z).mono ?_;rintro e w' ⟨rfl,rfl⟩));go_ret;exact⟨zi h.o.symm,rfl⟩
 ·cases q
  ·have h:Hid (zM false c=false):=ze0 (by simp;omega);have H:decide (97<=c)=true:=decide_eq_true (by omega);have O:decide (c<=122)=false:=decide_eq_false (by omega);have I:decide (65<=c)=true:=decide_eq_true (by omega);have M:decide (c<=90)=false:=decide_eq_false (by omega);have J:zK c=false:=zdb (by omega);have K:(c==95)=false:=beq_eq_false_iff_ne.2 (by omega);have L:(c==36)=false:=beq_eq_false_iff_ne.2 (by omega);clear r;go_enter func189,ntmps189;go_wp2_with (first|(go_at_call 188;refine (zbS _ _ A z).mono ?_;rintro e w' ⟨rfl,rfl⟩));go_ret;exact⟨zi h.o.symm,rfl⟩
  ·have h:Hid (zM true c=false):=ze0 (by simp;omega);have H:decide (97<=c)=true:=decide_eq_true (by omega);have O:decide (c<=122)=false:=decide_eq_false (by omega);have I:decide (65<=c)=true:=decide_eq_true (by omega);have M:decide (c<=90)=false:=decide_eq_false (by omega);have J:zK c=false:=zdb (by omega);have K:(c==95)=false:=beq_eq_false_iff_ne.2 (by omega);have L:(c==36)=false:=beq_eq_false_iff_ne.2 (by omega);clear r;go_enter func189,ntmps189;go_wp2_with (first|(go_at_call 188;refine (zbS _ _ A z).mono ?_;rintro e w' ⟨rfl,rfl⟩));go_ret;exact⟨zi h.o.symm,rfl⟩
def ze1 (c:Int):Bool:=decide (zbD c)
theorem zgV (c:Int) (w:World) (O:0<=c) (N:c<=255):
  Calls prog 210 #[.int .u8 c] w fun e w'=>e= .returned (.bool (ze1 c))/\w'=w:=by
 have z:c<32∨127<=c∨c=34∨c=92∨zbD c:=by unfold zbD;omega
 rcases z with r|r|r|r|r
 ·have q:Hid (ze1 c=false):=decide_eq_false (fun h=>by unfold zbD at h;omega);have A:decide (32<=c)=false:=decide_eq_false (by omega);clear r;go_enter func210,ntmps210;go_wp2;go_ret;exact⟨zi q.o.symm,rfl⟩
 ·have q:Hid (ze1 c=false):=decide_eq_false (fun h=>by unfold zbD at h;omega);have A:decide (32<=c)=true:=decide_eq_true (by omega);have J:decide (c<=126)=false:=decide_eq_false (by omega);clear r;go_enter func210,ntmps210;go_wp2;go_ret;exact⟨zi q.o.symm,rfl⟩
 ·have q:Hid (ze1 c=false):=decide_eq_false (fun h=>by unfold zbD at h;omega);subst r;go_enter func210,ntmps210;go_wp2;go_ret;exact⟨zi q.o.symm,rfl⟩
 ·have q:Hid (ze1 c=false):=decide_eq_false (fun h=>by unfold zbD at h;omega);subst r;go_enter func210,ntmps210;go_wp2;go_ret;exact⟨zi q.o.symm,rfl⟩
 ·have q:Hid (ze1 c=true):=decide_eq_true r;obtain⟨L,H,K,I⟩:=r;have A:decide (32<=c)=true:=decide_eq_true (by omega);have J:decide (c<=126)=true:=decide_eq_true (by omega);have M:(c !=34)=true:=bne_iff_ne.2 (by omega);have U:(c !=92)=true:=bne_iff_ne.2 (by omega);clear L H K I;go_enter func210,ntmps210;go_wp2;go_ret;exact⟨zi q.o.symm,rfl⟩
abbrev ze2 (c:Int):Prop:=48<=c/\c<=57
def dv (s:BA) (p:Nat):Nat->Int
 |0=>0
 |k+1=>dv s p k*10+(bt s (p+k)-48)
theorem zuw (s:BA) (p k:Nat) (h: ∀j,j<k->ze2 (bt s (p+j))):0<=dv s p k/\dv s p k<10^k:=by
 induction k with
 |zero=>simp[dv]
 |succ k q=>
  obtain⟨a,b⟩:=q (fun j w=>h j (by omega));have c:=h k (by omega);unfold ze2 at c;rw[dv,zeb];omega
theorem zux (k:Nat) (h:k<=9):(10:Int)^k<=1000000000:=by
 have:=zfs h;have e:(10:Int)^9=1000000000:=by decide
 omega
def pfx (s:BA):Nat:=if bt s 0=45 then 1 else 0
theorem zuy (s:BA):pfx s<=s.size:=by
 unfold pfx
 split
 ·rename_i h
  rcases Nat.eq_zero_or_pos s.size with e|e
  ·rw[bt_end s (by omega)] at h;omega
  ·omega
 ·omega
abbrev RdP (s:BA):Prop:=
 1<=s.size-pfx s/\s.size-pfx s<=9/\(∀j,j<s.size-pfx s->ze2 (bt s (pfx s+j)))/\(bt s (pfx s)≠48∨(pfx s=0/\s.size=1))
def zeZ (s:BA):Bool:=decide (RdP s)
def rdV (s:BA):Int:=if zeZ s then (if pfx s=1 then-dv s 1 (s.size-1) else dv s 0 s.size) else 0
theorem zfQ {s:BA} (h:RdP s):zeZ s=true:=decide_eq_true h
theorem zdC {s:BA} (h: ¬RdP s):zeZ s=false:=decide_eq_false h
theorem ze3 {s:BA} (h: ¬RdP s):rdV s=0:=by rw[rdV,zdC h];rfl
def spV (s:BA):Nat->Int
 |0=>0
 |k+1=>if ze2 (bt s k) then spV s k*10+(bt s k-48) else spV s k
def spK (s:BA):Nat->Int
 |0=>0
 |k+1=>if ze2 (bt s k) then spK s k+1 else spK s k
def spN (s:BA):Int:=if bt s 0=45 then-spV s s.size else spV s s.size
end Go.Proofs.YtgcbmogmniahjaaGreat
