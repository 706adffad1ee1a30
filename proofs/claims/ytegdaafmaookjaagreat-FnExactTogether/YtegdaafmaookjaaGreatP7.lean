/- Facts. -/
import Derived.Test.YtegdaafmaookjaaGreatProg
import Derived.WalkLawsBesides
import Derived.Test.YtegdaafmaookjaaGreatP0
namespace Go.Proofs.YtegdaafmaookjaaGreat
open Go.Proofs.Tryz
theorem bN0 {α:Type _} [BEq α] [LawfulBEq α] {a b:α} (h:a ≠ b):(a == b) = false:=beq_eq_false_iff_ne.2 h
theorem dT {p:Prop} [Decidable p] (h:p):decide p = true:=decide_eq_true h
set_option maxHeartbeats 3200000
open Go.RowKit Go.PlainAid
variable (z:Int) (s:BA0) (g:Nat) (w:Bool) (W:World) {u:Int} {C:Bool} {t:BA0} {b c:Nat}
theorem zeC (h: ¬((97<=u/\u<=122)∨(65<=u/\u<=90)∨u=95∨(C=true/\u=36))):zaA u C=false:=by
 rw[Bool.eq_false_iff];exact fun k=>h (ze7.1 k)
theorem zkD (h: ¬(48<=u/\u<=57)):zQ u=false:=dF h
theorem zd3 (S:World) (Y:0<=z) (X:z<=255):
  Calls prog 155 #[.int .u8 z,.bool w] S fun e w'=>e= .returned (.bool (zaA z w))/\w'=S:=by
 by_cases U:97<=z
 ·by_cases V:z<=122
  ·skip
   have A:decide (97<=z)=true:=dT (by omega);have L:decide (z<=122)=true:=dT (by omega);have h:Hid (zaA z w=true):=ze7.2 (by first|omega|(simp;omega));go_enter func155,ntmps155;go_wp2;go_ret;exact⟨zk h.o.symm,rfl⟩
  ·skip
   cases w with
   |true=>
    have A:decide (97<=z)=true:=dT (by omega);have L:decide (z<=122)=false:=dF (by omega);have H:decide (65<=z)=true:=dT (by omega);have K:decide (z<=90)=false:=dF (by omega);have I:(z==95)=false:=bN0 (by omega);have J:(z==36)=false:=bN0 (by omega);have h:Hid (zaA z true=false):=zeC (by first|omega|(simp;omega));go_enter func155,ntmps155;go_wp2;go_ret;exact⟨zk h.o.symm,rfl⟩
   |false=>
    have A:decide (97<=z)=true:=dT (by omega);have L:decide (z<=122)=false:=dF (by omega);have H:decide (65<=z)=true:=dT (by omega);have K:decide (z<=90)=false:=dF (by omega);have I:(z==95)=false:=bN0 (by omega);have J:(z==36)=false:=bN0 (by omega);have h:Hid (zaA z false=false):=zeC (by first|omega|(simp;omega));go_enter func155,ntmps155;go_wp2;go_ret;exact⟨zk h.o.symm,rfl⟩
 ·by_cases Z:65<=z
  ·by_cases O:z<=90
   ·skip
    have A:decide (97<=z)=false:=dF (by omega);have H:decide (65<=z)=true:=dT (by omega);have K:decide (z<=90)=true:=dT (by omega);have h:Hid (zaA z w=true):=ze7.2 (by first|omega|(simp;omega));go_enter func155,ntmps155;go_wp2;go_ret;exact⟨zk h.o.symm,rfl⟩
   ·by_cases N:z=95
    ·skip
     have A:decide (97<=z)=false:=dF (by omega);have H:decide (65<=z)=true:=dT (by omega);have K:decide (z<=90)=false:=dF (by omega);have I:(z==95)=true:=beq_iff_eq.2 (by omega);have h:Hid (zaA z w=true):=ze7.2 (by first|omega|(simp;omega));clear N;go_enter func155,ntmps155;go_wp2;go_ret;exact⟨zk h.o.symm,rfl⟩
    ·skip
     cases w with
     |true=>
      have A:decide (97<=z)=false:=dF (by omega);have H:decide (65<=z)=true:=dT (by omega);have K:decide (z<=90)=false:=dF (by omega);have I:(z==95)=false:=bN0 (by omega);have J:(z==36)=false:=bN0 (by omega);have h:Hid (zaA z true=false):=zeC (by first|omega|(simp;omega));go_enter func155,ntmps155;go_wp2;go_ret;exact⟨zk h.o.symm,rfl⟩
     |false=>
      have A:decide (97<=z)=false:=dF (by omega);have H:decide (65<=z)=true:=dT (by omega);have K:decide (z<=90)=false:=dF (by omega);have I:(z==95)=false:=bN0 (by omega);have J:(z==36)=false:=bN0 (by omega);have h:Hid (zaA z false=false):=zeC (by first|omega|(simp;omega));go_enter func155,ntmps155;go_wp2;go_ret;exact⟨zk h.o.symm,rfl⟩
  ·by_cases M:z=36
   ·skip
    cases w with
    |true=>
     have A:decide (97<=z)=false:=dF (by omega);have H:decide (65<=z)=false:=dF (by omega);have I:(z==95)=false:=bN0 (by omega);have J:(z==36)=true:=beq_iff_eq.2 (by omega);have h:Hid (zaA z true=true):=ze7.2 (by first|omega|(simp;omega));clear M;go_enter func155,ntmps155;go_wp2;go_ret;exact⟨zk h.o.symm,rfl⟩
    |false=>
     have A:decide (97<=z)=false:=dF (by omega);have H:decide (65<=z)=false:=dF (by omega);have I:(z==95)=false:=bN0 (by omega);have J:(z==36)=true:=beq_iff_eq.2 (by omega);have h:Hid (zaA z false=false):=zeC (by first|omega|(simp;omega));clear M;go_enter func155,ntmps155;go_wp2;go_ret;exact⟨zk h.o.symm,rfl⟩
   ·skip
    cases w with
    |true=>
     have A:decide (97<=z)=false:=dF (by omega);have H:decide (65<=z)=false:=dF (by omega);have I:(z==95)=false:=bN0 (by omega);have J:(z==36)=false:=bN0 (by omega);have h:Hid (zaA z true=false):=zeC (by first|omega|(simp;omega));go_enter func155,ntmps155;go_wp2;go_ret;exact⟨zk h.o.symm,rfl⟩
    |false=>
     have A:decide (97<=z)=false:=dF (by omega);have H:decide (65<=z)=false:=dF (by omega);have I:(z==95)=false:=bN0 (by omega);have J:(z==36)=false:=bN0 (by omega);have h:Hid (zaA z false=false):=zeC (by first|omega|(simp;omega));go_enter func155,ntmps155;go_wp2;go_ret;exact⟨zk h.o.symm,rfl⟩
theorem zc3 (K:0<=z) (J:z<=255):
  Calls prog 157 #[.int .u8 z] W fun e w'=>e= .returned (.bool (zQ z))/\w'=W:=by
 by_cases q:48<=z
 ·have I:decide (48<=z)=true:=dT q;by_cases A:z<=57
  ·have H:decide (z<=57)=true:=dT A;have h:Hid (zQ z=true):=zdg.2 ⟨q,A⟩;go_enter func157,ntmps157;go_wp2;go_ret;exact⟨zk h.o.symm,rfl⟩
  ·have H:decide (z<=57)=false:=dF A;have h:Hid (zQ z=false):=zkD (by omega);go_enter func157,ntmps157;go_wp2;go_ret;exact⟨zk h.o.symm,rfl⟩
 ·have I:decide (48<=z)=false:=dF q;have h:Hid (zQ z=false):=zkD (by omega);go_enter func157,ntmps157;go_wp2;go_ret;exact⟨zk h.o.symm,rfl⟩
def signS:BA0:={data:=#[123,125,40,41,44,59,61,46,42,43,45]}
theorem zpT (h:g<11):zbz (bt signS g):=by
 have: ∀g:Fin 11,zbz (bt signS g.val):=by decide
 exact this ⟨g,h⟩
theorem zpU (h:zbz z): ∃k,k<11/\bt signS k=z:=by
 rcases h with rfl|rfl|rfl|rfl|rfl|rfl|rfl|rfl|rfl|rfl|rfl
 ·exact⟨0,by decide⟩
 ·exact⟨1,by decide⟩
 ·exact⟨2,by decide⟩
 ·exact⟨3,by decide⟩
 ·exact⟨4,by decide⟩
 ·exact⟨5,by decide⟩
 ·exact⟨6,by decide⟩
 ·exact⟨7,by decide⟩
 ·exact⟨8,by decide⟩
 ·exact⟨9,by decide⟩
 ·exact⟨10,by decide⟩
def zgb (c:Int):Bool:=decide (zbz c)
theorem zkE:
  Calls prog 160 #[.int .u8 z] W fun e w'=>e= .returned (.bool (zgb z))/\w'=W:=by
 have U:=get_bt signS;have M:signS.size=11:=rfl;obtain⟨S,I⟩: ∃S,signS=S:=⟨_,rfl⟩;have N:Hid (signS=S):=I;rw[I] at U M;go_enter func160,ntmps160;go_wp2;rw[show ({data:=#[123,125,40,41,44,59,61,46,42,43,45]}:BA0)=S from I];clear I;go_loop [4] (fun i=>∃k:Nat,k<=11/\i= .int .i64 k/\∀j,j<k->bt S j≠z) (fun i=>(11-intOf i).toNat)
 case atStart=>exact⟨0,by omega,rfl,fun j K=>absurd K (Nat.not_lt_zero j)⟩
 case round=>
  obtain⟨k,X,rfl,A⟩:=hrel;have H:Hid (∀j,j<k->bt S j≠z):=A;clear A;by_cases J:k<11
  ·by_cases q:bt S k=z
   ·have O:(bt S k==z)=true:=by simpa using q
    have L:Hid (zgb z=true):=dT (by rw[<-q,<-N.o];exact zpT k J);clear q;go_wp2;go_ret;exact⟨zk L.o.symm,rfl⟩
   ·have O:(bt S k==z)=false:=by simpa using q
    have V:Hid (∀j,j<k+1->bt S j≠z):=fun j K=>by
     by_cases e:j=k
     ·rw[e];exact q
     ·exact H.o j (by omega)
    clear q;go_wp2;go_round
    case rel=>exact⟨k+1,by omega,by go_num,V.o⟩
    case measure=>simp[intOf];omega
  ·have L:Hid (zgb z=false):=dF (fun h=>by
    obtain⟨j,K,e⟩:=zpU z h;rw[N.o] at e
    exact H.o j (by omega) e)
   go_wp2;go_ret;exact⟨zk L.o.symm,rfl⟩
theorem zpV (h:zaA u C=true):zT C u=true:=by simp[zT,h]
theorem zpW (h:zQ u=true):zT C u=true:=by simp[zT,h]
theorem zpX (h:zaA u C=false) (k:zQ u=false):zT C u=false:=by simp[zT,h,k]
theorem zgc {p:Int->Bool} (h: ∀j,b<=j->j<c->p (bt t j)=true) (q:p (bt t c)=true): ∀j,b<=j->j<c+1->p (bt t j)=true:=by
 intro j w A;by_cases e:j=c
 ·rw[e];exact q
 ·exact h j w (by omega)
theorem zpY (S:World) (X:g<=s.size) (hs:s.size<=4294967296):
  Calls prog 156 #[.string s,.int .i64 g,.bool w] S fun e w'=>∃n:Nat,e= .returned (.int .i64 n)/\zaB (zT w) s g n/\w'=S:=by
 have hb:=get_bt s;go_enter func156,ntmps156;go_wp2;go_loop [1] (fun i=>∃k:Nat,g<=k/\k<=s.size/\i= .int .i64 k/\∀j,g<=j->j<k->zT w (bt s j)=true) (fun i=>(s.size-intOf i).toNat)
 case atStart=>exact⟨g,Nat.le_refl _,X,rfl,fun j Z Y=>by omega⟩
 case round=>
  obtain⟨k,L,K,rfl,J⟩:=hrel;have I:Hid (∀j,g<=j->j<k->zT w (bt s j)=true):=J;clear J;by_cases M:k<s.size
  ·have A:=bt_nonneg s k;have H:=bt_le s k;cases V:zaA (bt s k) w with
   |true=>
    have O:Hid (∀j,g<=j->j<k+1->zT w (bt s j)=true):=zgc I.o (zpV V);go_wp2_with (first|(go_at_call 155;refine (zd3 _ _ _ A H).mono ?_;rintro e w' ⟨rfl,rfl⟩)|(go_at_call 157;refine (zc3 _ _ A H).mono ?_;rintro e w' ⟨rfl,rfl⟩));go_round
    case rel=>exact⟨k+1,by omega,by omega,by go_num,O.o⟩
    case measure=>simp[intOf];omega
   |false=>
    cases U:zQ (bt s k) with
    |true=>
     have O:Hid (∀j,g<=j->j<k+1->zT w (bt s j)=true):=zgc I.o (zpW U);go_wp2_with (first|(go_at_call 155;refine (zd3 _ _ _ A H).mono ?_;rintro e w' ⟨rfl,rfl⟩)|(go_at_call 157;refine (zc3 _ _ A H).mono ?_;rintro e w' ⟨rfl,rfl⟩));go_round
     case rel=>exact⟨k+1,by omega,by omega,by go_num,O.o⟩
     case measure=>simp[intOf];omega
    |false=>
     have N:Hid (zaB (zT w) s g k):=⟨L,K,I.o,fun _=>zpX V U⟩;go_wp2_with (first|(go_at_call 155;refine (zd3 _ _ _ A H).mono ?_;rintro e w' ⟨rfl,rfl⟩)|(go_at_call 157;refine (zc3 _ _ A H).mono ?_;rintro e w' ⟨rfl,rfl⟩));go_ret;exact⟨k,rfl,N.o,rfl⟩
  ·have N:Hid (zaB (zT w) s g k):=⟨L,K,I.o,fun h=>absurd h M⟩;go_wp2;go_ret;exact⟨k,rfl,N.o,rfl⟩
theorem zgY (q: ∀j,b<j->j<c->zbQ (bt t j)) (h:t.size<=c∨b+42<=c): ∀e,¬zbD t b e:=by
 intro e ⟨h1,h2,h3,h4,_⟩;exact absurd h4 (q (e-1) (by omega) (by omega)).2.2.1
theorem zgZ (A:b<c) (q: ∀j,b<j->j<c->zbQ (bt t j)) (w:bt t c≠34) (h: ¬zbQ (bt t c)): ∀e,¬zbD t b e:=by
 intro e ⟨h1,h2,h3,h4,h5⟩;rcases Nat.lt_trichotomy (e-1) c with g|g|g
 ·exact absurd h4 (q (e-1) (by omega) g).2.2.1
 ·rw[g] at h4;exact w h4
 ·exact h (h5 c A (by omega))
theorem zpZ (ha:g<s.size) (hs:s.size<=4294967296):
  Calls prog 159 #[.string s,.int .i64 g] W fun e w'=>∃z:Int,e= .returned (.int .i64 z)/\((∃n:Nat,z=n/\zbD s g n)∨(z= -1/\∀n,¬zbD s g n))/\w'=W:=by
 have hb:=get_bt s;go_enter func159,ntmps159;go_wp2;go_loop [5] (fun i=>∃k:Nat,g<k/\k<=s.size/\k<=g+42/\i= .int .i64 k/\∀j,g<j->j<k->zbQ (bt s j)) (fun i=>(s.size-intOf i).toNat)
 case atStart=>exact⟨g+1,by omega,by omega,by omega,by go_num,fun j K M=>by omega⟩
 case round=>
  obtain⟨k,I,Y,ab,rfl,L⟩:=hrel;have A:Hid (∀j,g<j->j<k->zbQ (bt s j)):=L;clear L;by_cases V:k<s.size
  ·have aa:=bt_nonneg s k;have ac:=bt_le s k;by_cases U:k<=g+41
   ·have X:decide ((k:Int)<=(g:Int)+1+40)=true:=dT (by omega);by_cases q:bt s k=34
    ·have HE:Hid (zbD s g (k+1)):=⟨by omega,by omega,by omega,by rw[Nat.add_sub_cancel];exact q,fun j K M=>A.o j K (by omega)⟩;have N:(bt s k==34)=true:=by simpa using q
     clear q;go_wp2;go_ret;exact⟨(k:Int)+1,rfl,.inl ⟨k+1,by omega,HE.o⟩,rfl⟩
    ·have N:(bt s k==34)=false:=by simpa using q
     by_cases K:bt s k<32
     ·have H:Hid (∀e,¬zbD s g e):=zgZ I A.o q (fun h=>by have:=h.1;omega);have Z:decide (bt s k<32)=true:=dT K;clear q;go_wp2;go_ret;exact⟨-1,rfl,.inr ⟨rfl,H.o⟩,rfl⟩
     ·have Z:decide (bt s k<32)=false:=dF K;by_cases M:126<bt s k
      ·have H:Hid (∀e,¬zbD s g e):=zgZ I A.o q (fun h=>by have:=h.2.1;omega);have q2:decide (126<bt s k)=true:=dT M;clear q;go_wp2;go_ret;exact⟨-1,rfl,.inr ⟨rfl,H.o⟩,rfl⟩
      ·have q2:decide (126<bt s k)=false:=dF M;by_cases J:bt s k=92
       ·have H:Hid (∀e,¬zbD s g e):=zgZ I A.o q (fun h=>h.2.2.2 J);have O:(bt s k==92)=true:=by simpa using J
        clear q J N;have N:(bt s k==34)=false:=bN0 (by have:=beq_iff_eq.1 O;omega);go_wp2;go_ret;exact⟨-1,rfl,.inr ⟨rfl,H.o⟩,rfl⟩
       ·have O:(bt s k==92)=false:=by simpa using J
        have HX:Hid (∀j,g<j->j<k+1->zbQ (bt s j)):=fun j g1 g2=>by
         by_cases e:j=k
         ·rw[e];exact⟨by omega,by omega,q,J⟩
         ·exact A.o j g1 (by omega)
        clear q J;go_wp2;go_round
        case rel=>exact⟨k+1,by omega,by omega,by omega,by go_num,HX.o⟩
        case measure=>simp[intOf];omega
   ·have H:Hid (∀e,¬zbD s g e):=zgY A.o (.inr (by omega));have X:decide ((k:Int)<=(g:Int)+1+40)=false:=dF (by omega);go_wp2;go_ret;exact⟨-1,rfl,.inr ⟨rfl,H.o⟩,rfl⟩
  ·have H:Hid (∀e,¬zbD s g e):=zgY A.o (.inl (by omega));go_wp2;go_ret;exact⟨-1,rfl,.inr ⟨rfl,H.o⟩,rfl⟩
theorem zkF {e:Nat} (w: ∀j,b<=j->j<c->zQ (bt t j)=true) (h:zbl t b C u e):c<=e∨e<c/\t.size<=e:=by
 obtain⟨⟨I,J,L,H⟩,K,_⟩:=h;rcases Nat.lt_or_ge e c with g|g
 ·right;refine⟨g,?_⟩;rcases Nat.lt_or_ge e t.size with q|q
  ·have:=w e I g;rw[H q] at this;cases this
  ·exact q
 ·exact .inl g
theorem zqa (I:b<c) (A:c<t.size) (q: ∀j,b<=j->j<c+1->zQ (bt t j)=true) (H:bt t b=48): ∀n e,¬zbl t b C n e:=by
 intro n e h;have J:=zkF q h;rcases h.2.2.1 with g|g
 ·omega
 ·exact g H
theorem zqb (H:b<=c) (A:c<t.size) (q: ∀j,b<=j->j<c+1->zQ (bt t j)=true) (N:1000000<zbR t b (c+1-b)): ∀n e,¬zbl t b C n e:=by
 intro n e h;have L:=zkF q h;have J:=zks (s:=t) (a:=b) (c+1-b) (e-b) (fun j I=>(zdg.1 (h.1.2.2.1 (b+j) (by omega) (by omega))).1) (by omega);have M:=h.2.2.2.1;have K:=h.2.2.2.2.1;omega
theorem zqc (I:zaB zQ t b c) (A:c<t.size) (H:zaA (bt t c) C=true): ∀n e,¬zbl t b C n e:=by
 intro n e h;have:=zfS I h.1;subst this;have w:=h.2.2.2.2.2 A;rw[H] at w;cases w
theorem zqd (d:World) (ha:g<s.size) (Z:zQ (bt s g)=true) (hs:s.size<=4294967296):
  Calls prog 158 #[.string s,.int .i64 g,.bool w] d fun e w'=>∃n z:Int,e= .returned (.tuple #[.int .i64 n,.int .i64 z])/\((∃m:Nat,z=m/\zbl s g w n m)∨(n=0/\z= -1/\∀n m,¬zbl s g w n m))/\w'=d:=by
 have hb:=get_bt s;have aa:Hid (zQ (bt s g)=true):=Z;clear Z;go_enter func158,ntmps158;go_wp2;go_loop [8,9] (fun n i=>∃(k:Nat) (v:Int),g<=k/\k<=s.size/\i= .int .i64 k/\n= .int .i64 v/\v=zbR s g (k-g)/\0<=v/\v<=1000000/\(k<=g+1∨bt s g≠48)/\∀j,g<=j->j<k->zQ (bt s j)=true) (fun _ i=>(s.size-intOf i).toNat)
 case atStart=>exact⟨g,0,Nat.le_refl _,by omega,rfl,rfl,by rw[Nat.sub_self];rfl,by omega,by omega,.inl (by omega),fun j h1 h2=>by omega⟩
 case round=>
  obtain⟨k,v,L,U,rfl,rfl,hv,ae,V,hz,Y⟩:=hrel;have M:Hid (∀j,g<=j->j<k->zQ (bt s j)=true):=Y;have HV:Hid (v=zbR s g (k-g)):=hv;have HZ:Hid (k<=g+1∨bt s g≠48):=hz;clear Y hv hz;by_cases K:k<s.size
  ·have A:=bt_nonneg s k;have H:=bt_le s k;cases O:zQ (bt s k) with
   |true=>
    have ab:=zdg.1 O;obtain⟨ad,ac⟩:=ab;have HX:Hid (∀j,g<=j->j<k+1->zQ (bt s j)=true):=zgc M.o O;by_cases I:g<k/\bt s g=48
    ·obtain⟨z1,z2⟩:=I;have N:Hid (∀n e,¬zbl s g w n e):=zqa z1 K HX.o z2;have q1:(bt s g==48)=true:=by simpa using z2
     clear z2;go_wp2_with (first|(go_at_call 157;refine (zc3 _ _ A H).mono ?_;rintro e w' ⟨rfl,rfl⟩));go_ret2;exact⟨0,-1,rfl,.inr ⟨rfl,rfl,N.o⟩,rfl⟩
    ·have HD:Hid (zbR s g (k+1-g)=v*10+(bt s k-48)):=by
      show zbR s g (k+1-g)=_;rw[show k+1-g=(k-g)+1 from by omega,zbR,<-HV.o,show g+(k-g)=k from by omega]
     have X:Hid (k+1<=g+1∨bt s g≠48):=by
      rcases Nat.lt_or_ge g k with S|S
      ·exact .inr fun h=>I ⟨S,h⟩
      ·exact .inl (by omega)
     by_cases hg:1000000<v*10+(bt s k-48)
     ·have N:Hid (∀n e,¬zbl s g w n e):=zqb L K HX.o (by rw[HD.o];exact hg);by_cases J:g<k
      ·have q1:(bt s g==48)=false:=bN0 (fun h=>I ⟨J,h⟩);clear I;go_wp2_with (first|(go_at_call 157;refine (zc3 _ _ A H).mono ?_;rintro e w' ⟨rfl,rfl⟩));go_ret2;exact⟨0,-1,rfl,.inr ⟨rfl,rfl,N.o⟩,rfl⟩
      ·clear I;go_wp2_with (first|(go_at_call 157;refine (zc3 _ _ A H).mono ?_;rintro e w' ⟨rfl,rfl⟩));go_ret2;exact⟨0,-1,rfl,.inr ⟨rfl,rfl,N.o⟩,rfl⟩
     ·by_cases J:g<k
      ·have q1:(bt s g==48)=false:=bN0 (fun h=>I ⟨J,h⟩);clear I;go_wp2_with (first|(go_at_call 157;refine (zc3 _ _ A H).mono ?_;rintro e w' ⟨rfl,rfl⟩));go_round
       case rel=>exact⟨k+1,v*10+(bt s k-48),by omega,by omega,by go_num,by go_num,HD.o.symm,by omega,by omega,X.o,HX.o⟩
       case measure=>simp[intOf];omega
      ·clear I;go_wp2_with (first|(go_at_call 157;refine (zc3 _ _ A H).mono ?_;rintro e w' ⟨rfl,rfl⟩));go_round
       case rel=>exact⟨k+1,v*10+(bt s k-48),by omega,by omega,by go_num,by go_num,HD.o.symm,by omega,by omega,X.o,HX.o⟩
       case measure=>simp[intOf];omega
   |false=>
    have HR:Hid (zaB zQ s g k):=⟨L,U,M.o,fun _=>O⟩;have J:g<k:=by
     rcases Nat.lt_or_ge g k with S|S
     ·exact S
     ·have e:k=g:=by omega
      rw[e,aa.o] at O;cases O
    cases hl:zaA (bt s k) w with
    |true=>
     have N:Hid (∀n e,¬zbl s g w n e):=zqc HR.o K hl;go_wp2_with (first|(go_at_call 155;refine (zd3 _ _ _ A H).mono ?_;rintro e w' ⟨rfl,rfl⟩)|(go_at_call 157;refine (zc3 _ _ A H).mono ?_;rintro e w' ⟨rfl,rfl⟩));go_ret2;exact⟨0,-1,rfl,.inr ⟨rfl,rfl,N.o⟩,rfl⟩
    |false=>
     have HA:Hid (zbl s g w v k):=⟨HR.o,J,HZ.o.imp (fun S=>by omega) id,HV.o,V,fun _=>hl⟩;go_wp2_with (first|(go_at_call 155;refine (zd3 _ _ _ A H).mono ?_;rintro e w' ⟨rfl,rfl⟩)|(go_at_call 157;refine (zc3 _ _ A H).mono ?_;rintro e w' ⟨rfl,rfl⟩));go_ret2;exact⟨v,k,rfl,.inl ⟨k,rfl,HA.o⟩,rfl⟩
  ·have J:g<k:=by omega
   have HA:Hid (zbl s g w v k):=⟨⟨L,U,M.o,fun h=>absurd h K⟩,J,HZ.o.imp (fun S=>by omega) id,HV.o,V,fun h=>absurd h K⟩;go_wp2;go_ret2;exact⟨v,k,rfl,.inl ⟨k,rfl,HA.o⟩,rfl⟩
theorem zkG (ha:g<=s.size) (hs:s.size<=4294967296):
  Calls prog 121 #[.string s,.int .i64 g] W fun e w'=>∃n:Nat,e= .returned (.int .i64 n)/\Skip s g n/\w'=W:=by
 have hb:=get_bt s;go_enter func121,ntmps121;go_wp2;go_loop [1,5] (fun i _=>∃k:Nat,k<=s.size/\i= .int .i64 k/\∀c,Skip s k c->Skip s g c) (fun i _=>(s.size-intOf i).toNat)
 case atStart=>exact⟨g,ha,rfl,fun c h=>h⟩
 case round=>
  obtain⟨k,hk,rfl,V⟩:=hrel;have K:Hid (∀c,Skip s k c->Skip s g c):=V;clear V;by_cases L:k<s.size
  ·have ai:=bt_nonneg s k;have aj:=bt_le s k;by_cases A:zcT (bt s k)
   ·have U:Hid (∀c,Skip s (k+1) c->Skip s g c):=fun c h=>K.o c (.blank L A h);have ac:bt s k=9∨bt s k=10∨bt s k=13∨bt s k=32:=A;clear A;rcases ac with q|q|q|q
    all_goals
     go_wp2;go_round
     case rel=>exact⟨k+1,by omega,by go_num,U.o⟩
     case measure=>simp[intOf];omega
   ·have e1:(bt s k==9)=false:=bN0 (fun h=>A (.inl h));have e2:(bt s k==10)=false:=bN0 (fun h=>A (.inr (.inl h)));have e3:(bt s k==13)=false:=bN0 (fun h=>A (.inr (.inr (.inl h))));have e4:(bt s k==32)=false:=bN0 (fun h=>A (.inr (.inr (.inr h))));by_cases I:zcE s k
    ·obtain⟨J,s2,s3⟩:=I;have X:Hid (zcE s k):=⟨J,s2,s3⟩;have q1:(bt s k !=47)=false:=by simp[J]
     have q2:(bt s (k+1) !=47)=false:=by simp[s3]
     have ae:=bt_nonneg s (k+1);have aa:=bt_le s (k+1);have ad:Hid (bt s k≠10):=by show bt s k≠10;rw[J];omega
     clear J s3 A;go_wp2;go_loop [1] (fun i=>∃m:Nat,k<=m/\m<=s.size/\i= .int .i64 m/\∀j,k<=j->j<m->zbC (bt s j)=true) (fun i=>(s.size-intOf i).toNat)
     case atStart=>exact⟨k,Nat.le_refl _,hk,rfl,fun j h1 h2=>by omega⟩
     case round=>
      obtain⟨m,Y,M,rfl,Z⟩:=hrel;have O:Hid (∀j,k<=j->j<m->zbC (bt s j)=true):=Z;clear Z;by_cases ab:m<s.size
      ·have ag:=bt_nonneg s m;have ah:=bt_le s m;by_cases H:bt s m=10
       ·have af:k<m:=by
         rcases Nat.lt_or_ge k m with S|S
         ·exact S
         ·have e:m=k:=by omega
          rw[e] at H;exact absurd H ad.o
        have N:Hid (zaB zbC s k m):=⟨Y,M,O.o,fun _=>by simp[zbC,H]⟩;have U:Hid (∀c,Skip s m c->Skip s g c):=fun c h=>K.o c (.comment L X.o N.o h);have r1:(bt s m !=10)=false:=by simp[H]
        clear H;go_wp2;go_round
        case rel=>exact⟨m,M,rfl,U.o⟩
        case measure=>simp[intOf];omega
       ·have U:Hid (∀j,k<=j->j<m+1->zbC (bt s j)=true):=zgc O.o (by simp[zbC,H]);have r1:(bt s m !=10)=true:=by simpa using H
        clear H;go_wp2;go_round
        case rel=>exact⟨m+1,by omega,by omega,by go_num,U.o⟩
        case measure=>simp[intOf];omega
      ·have N:Hid (zaB zbC s k m):=⟨Y,M,O.o,fun h=>absurd h ab⟩;have U:Hid (∀c,Skip s m c->Skip s g c):=fun c h=>K.o c (.comment L X.o N.o h);go_wp2;go_round
       case rel=>exact⟨m,M,rfl,U.o⟩
       case measure=>simp[intOf];omega
    ·have N:Hid (Skip s g k):=K.o k (.stop L A I);clear A;by_cases J:bt s k=47
     ·have q1:(bt s k !=47)=false:=by simp[J]
      by_cases s2:k+1<s.size
      ·have q2:(bt s (k+1) !=47)=true:=by simpa using fun h=>I ⟨J,s2,h⟩
       have ae:=bt_nonneg s (k+1);have aa:=bt_le s (k+1);clear J I;go_wp2;go_ret;exact⟨k,rfl,N.o,rfl⟩
      ·clear J I;go_wp2;go_ret;exact⟨k,rfl,N.o,rfl⟩
     ·have q1:(bt s k !=47)=true:=by simpa using J
      clear J I;go_wp2;go_ret;exact⟨k,rfl,N.o,rfl⟩
  ·have N:Hid (Skip s g k):=K.o k (by rw[show k=s.size from by omega];exact .done);go_wp2;go_ret;exact⟨k,rfl,N.o,rfl⟩
set_option maxHeartbeats 1600000
variable (z:Int) (w:World) {u:Int} {W:Bool} {s:BA0}
theorem zdt (h: ¬(48<=u/\u<=57)):zQ u=false:=dF h
theorem zf9:zT W u=true↔(97<=u/\u<=122)∨(65<=u/\u<=90)∨u=95∨(W=true/\u=36)∨(48<=u/\u<=57):=by rw[zT,Bool.or_eq_true,ze7,zdg];simp only[or_assoc]
theorem zeY (h: ¬((97<=u/\u<=122)∨(65<=u/\u<=90)∨u=95∨(W=true/\u=36)∨(48<=u/\u<=57))):zT W u=false:=Bool.eq_false_iff.2 fun e=>h (zf9.1 e)
theorem zcg (_:0<=z) (_:z<=255):
  Calls prog 206 #[.int .u8 z] w fun e w'=>e= .returned (.bool (zQ z))/\w'=w:=by
 by_cases H:48<=z
 ·by_cases I:z<=57
  ·have h:Hid (zQ z=true):=zdg.2 ⟨H,I⟩;have q:decide (48<=z)=true:=decide_eq_true (by omega);have A:decide (z<=57)=true:=decide_eq_true (by omega);go_enter func206,ntmps206;go_wp2;go_ret;exact⟨zk h.o.symm,rfl⟩
  ·have h:Hid (zQ z=false):=zdt (by omega);have q:decide (48<=z)=true:=decide_eq_true (by omega);have A:decide (z<=57)=false:=dF (by omega);go_enter func206,ntmps206;go_wp2;go_ret;exact⟨zk h.o.symm,rfl⟩
 ·have h:Hid (zQ z=false):=zdt (by omega);have q:decide (48<=z)=false:=dF (by omega);go_enter func206,ntmps206;go_wp2;go_ret;exact⟨zk h.o.symm,rfl⟩
theorem zfA (q:Bool) (w:World) (H:0<=z) (A:z<=255):
  Calls prog 207 #[.int .u8 z,.bool q] w fun e w'=>e= .returned (.bool (zT q z))/\w'=w:=by
 have O:(97<=z/\z<=122)∨(65<=z/\z<=90)∨(48<=z/\z<=57)∨z=95∨z=36∨(z<65/\¬(48<=z/\z<=57)/\z≠36)∨(91<=z/\z<=96/\z≠95)∨123<=z:=by omega
 rcases O with r|r|r|r|r|r|r|r
 ·have h:Hid (zT q z=true):=zf9.2 (by omega);have I:decide (97<=z)=true:=decide_eq_true (by omega);have U:decide (z<=122)=true:=decide_eq_true (by omega);clear r;go_enter func207,ntmps207;go_wp2_with (first|(go_at_call 206;refine (zcg _ _ H A).mono ?_;rintro e w' ⟨rfl,rfl⟩));go_ret;exact⟨zk h.o.symm,rfl⟩
 ·have h:Hid (zT q z=true):=zf9.2 (by omega);have I:decide (97<=z)=false:=dF (by omega);have J:decide (65<=z)=true:=decide_eq_true (by omega);have N:decide (z<=90)=true:=decide_eq_true (by omega);clear r;go_enter func207,ntmps207;go_wp2_with (first|(go_at_call 206;refine (zcg _ _ H A).mono ?_;rintro e w' ⟨rfl,rfl⟩));go_ret;exact⟨zk h.o.symm,rfl⟩
 ·have h:Hid (zT q z=true):=zf9.2 (by omega);have I:decide (97<=z)=false:=dF (by omega);have J:decide (65<=z)=false:=dF (by omega);have K:zQ z=true:=zdg.2 r;clear r;go_enter func207,ntmps207;go_wp2_with (first|(go_at_call 206;refine (zcg _ _ H A).mono ?_;rintro e w' ⟨rfl,rfl⟩));go_ret;exact⟨zk h.o.symm,rfl⟩
 ·have h:Hid (zT q z=true):=zf9.2 (by omega);have I:decide (97<=z)=false:=dF (by omega);have J:decide (65<=z)=true:=decide_eq_true (by omega);have N:decide (z<=90)=false:=dF (by omega);have K:zQ z=false:=zdt (by omega);have L:(z==95)=true:=beq_iff_eq.2 (by omega);clear r;go_enter func207,ntmps207;go_wp2_with (first|(go_at_call 206;refine (zcg _ _ H A).mono ?_;rintro e w' ⟨rfl,rfl⟩));go_ret;exact⟨zk h.o.symm,rfl⟩
 ·cases q
  ·have h:Hid (zT false z=false):=zeY (by simp;omega);have I:decide (97<=z)=false:=dF (by omega);have J:decide (65<=z)=false:=dF (by omega);have K:zQ z=false:=zdt (by omega);have L:(z==95)=false:=beq_eq_false_iff_ne.2 (by omega);have M:(z==36)=true:=beq_iff_eq.2 (by omega);clear r;go_enter func207,ntmps207;go_wp2_with (first|(go_at_call 206;refine (zcg _ _ H A).mono ?_;rintro e w' ⟨rfl,rfl⟩));go_ret;exact⟨zk h.o.symm,rfl⟩
  ·have h:Hid (zT true z=true):=zf9.2 (by simp;omega);have I:decide (97<=z)=false:=dF (by omega);have J:decide (65<=z)=false:=dF (by omega);have K:zQ z=false:=zdt (by omega);have L:(z==95)=false:=beq_eq_false_iff_ne.2 (by omega);have M:(z==36)=true:=beq_iff_eq.2 (by omega);clear r;go_enter func207,ntmps207;go_wp2_with (first|(go_at_call 206;refine (zcg _ _ H A).mono ?_;rintro e w' ⟨rfl,rfl⟩));go_ret;exact⟨zk h.o.symm,rfl⟩
 ·cases q
  ·have h:Hid (zT false z=false):=zeY (by simp;omega);have I:decide (97<=z)=false:=dF (by omega);have J:decide (65<=z)=false:=dF (by omega);have K:zQ z=false:=zdt (by omega);have L:(z==95)=false:=beq_eq_false_iff_ne.2 (by omega);have M:(z==36)=false:=beq_eq_false_iff_ne.2 (by omega);clear r;go_enter func207,ntmps207;go_wp2_with (first|(go_at_call 206;refine (zcg _ _ H A).mono ?_;rintro e w' ⟨rfl,rfl⟩));go_ret;exact⟨zk h.o.symm,rfl⟩
  ·have h:Hid (zT true z=false):=zeY (by simp;omega);have I:decide (97<=z)=false:=dF (by omega);have J:decide (65<=z)=false:=dF (by omega);have K:zQ z=false:=zdt (by omega);have L:(z==95)=false:=beq_eq_false_iff_ne.2 (by omega);have M:(z==36)=false:=beq_eq_false_iff_ne.2 (by omega);clear r;go_enter func207,ntmps207;go_wp2_with (first|(go_at_call 206;refine (zcg _ _ H A).mono ?_;rintro e w' ⟨rfl,rfl⟩));go_ret;exact⟨zk h.o.symm,rfl⟩
 ·cases q
  ·have h:Hid (zT false z=false):=zeY (by simp;omega);have I:decide (97<=z)=false:=dF (by omega);have J:decide (65<=z)=true:=decide_eq_true (by omega);have N:decide (z<=90)=false:=dF (by omega);have K:zQ z=false:=zdt (by omega);have L:(z==95)=false:=beq_eq_false_iff_ne.2 (by omega);have M:(z==36)=false:=beq_eq_false_iff_ne.2 (by omega);clear r;go_enter func207,ntmps207;go_wp2_with (first|(go_at_call 206;refine (zcg _ _ H A).mono ?_;rintro e w' ⟨rfl,rfl⟩));go_ret;exact⟨zk h.o.symm,rfl⟩
  ·have h:Hid (zT true z=false):=zeY (by simp;omega);have I:decide (97<=z)=false:=dF (by omega);have J:decide (65<=z)=true:=decide_eq_true (by omega);have N:decide (z<=90)=false:=dF (by omega);have K:zQ z=false:=zdt (by omega);have L:(z==95)=false:=beq_eq_false_iff_ne.2 (by omega);have M:(z==36)=false:=beq_eq_false_iff_ne.2 (by omega);clear r;go_enter func207,ntmps207;go_wp2_with (first|(go_at_call 206;refine (zcg _ _ H A).mono ?_;rintro e w' ⟨rfl,rfl⟩));go_ret;exact⟨zk h.o.symm,rfl⟩
 ·cases q
  ·have h:Hid (zT false z=false):=zeY (by simp;omega);have I:decide (97<=z)=true:=decide_eq_true (by omega);have U:decide (z<=122)=false:=dF (by omega);have J:decide (65<=z)=true:=decide_eq_true (by omega);have N:decide (z<=90)=false:=dF (by omega);have K:zQ z=false:=zdt (by omega);have L:(z==95)=false:=beq_eq_false_iff_ne.2 (by omega);have M:(z==36)=false:=beq_eq_false_iff_ne.2 (by omega);clear r;go_enter func207,ntmps207;go_wp2_with (first|(go_at_call 206;refine (zcg _ _ H A).mono ?_;rintro e w' ⟨rfl,rfl⟩));go_ret;exact⟨zk h.o.symm,rfl⟩
  ·have h:Hid (zT true z=false):=zeY (by simp;omega);have I:decide (97<=z)=true:=decide_eq_true (by omega);have U:decide (z<=122)=false:=dF (by omega);have J:decide (65<=z)=true:=decide_eq_true (by omega);have N:decide (z<=90)=false:=dF (by omega);have K:zQ z=false:=zdt (by omega);have L:(z==95)=false:=beq_eq_false_iff_ne.2 (by omega);have M:(z==36)=false:=beq_eq_false_iff_ne.2 (by omega);clear r;go_enter func207,ntmps207;go_wp2_with (first|(go_at_call 206;refine (zcg _ _ H A).mono ?_;rintro e w' ⟨rfl,rfl⟩));go_ret;exact⟨zk h.o.symm,rfl⟩
def zeZ (c:Int):Bool:=decide (zbQ c)
theorem zhL (U:0<=z) (O:z<=255):
  Calls prog 226 #[.int .u8 z] w fun e w'=>e= .returned (.bool (zeZ z))/\w'=w:=by
 have A:z<32∨127<=z∨z=34∨z=92∨zbQ z:=by unfold zbQ;omega
 rcases A with r|r|r|r|r
 ·have q:Hid (zeZ z=false):=dF (fun h=>by unfold zbQ at h;omega);have H:decide (32<=z)=false:=dF (by omega);clear r;go_enter func226,ntmps226;go_wp2;go_ret;exact⟨zk q.o.symm,rfl⟩
 ·have q:Hid (zeZ z=false):=dF (fun h=>by unfold zbQ at h;omega);have H:decide (32<=z)=true:=decide_eq_true (by omega);have K:decide (z<=126)=false:=dF (by omega);clear r;go_enter func226,ntmps226;go_wp2;go_ret;exact⟨zk q.o.symm,rfl⟩
 ·have q:Hid (zeZ z=false):=dF (fun h=>by unfold zbQ at h;omega);subst r;go_enter func226,ntmps226;go_wp2;go_ret;exact⟨zk q.o.symm,rfl⟩
 ·have q:Hid (zeZ z=false):=dF (fun h=>by unfold zbQ at h;omega);subst r;go_enter func226,ntmps226;go_wp2;go_ret;exact⟨zk q.o.symm,rfl⟩
 ·have q:Hid (zeZ z=true):=decide_eq_true r;obtain⟨M,I,L,J⟩:=r;have H:decide (32<=z)=true:=decide_eq_true (by omega);have K:decide (z<=126)=true:=decide_eq_true (by omega);have N:(z !=34)=true:=bne_iff_ne.2 (by omega);have V:(z !=92)=true:=bne_iff_ne.2 (by omega);clear M I L J;go_enter func226,ntmps226;go_wp2;go_ret;exact⟨zk q.o.symm,rfl⟩
abbrev zfa (c:Int):Prop:=48<=c/\c<=57
def dv (s:BA0) (p:Nat):Nat->Int
 |0=>0
 |k+1=>dv s p k*10+(bt s (p+k)-48)
theorem zw0 (s:BA0) (p k:Nat) (h: ∀j,j<k->zfa (bt s (p+j))):0<=dv s p k/\dv s p k<10^k:=by
 induction k with
 |zero=>simp[dv]
 |succ k q=>
  obtain⟨a,b⟩:=q (fun j w=>h j (by omega));have c:=h k (by omega);unfold zfa at c;rw[dv,ze9];omega
theorem zw1 (k:Nat) (h:k<=9):(10:Int)^k<=1000000000:=by
 have:=zfY h;have e:(10:Int)^9=1000000000:=by decide
 omega
def pfx (s:BA0):Nat:=if bt s 0=45 then 1 else 0
theorem zw2 (s:BA0):pfx s<=s.size:=by
 unfold pfx
 split
 ·rename_i h
  rcases Nat.eq_zero_or_pos s.size with e|e
  ·rw[bt_end s (by omega)] at h;omega
  ·omega
 ·omega
abbrev RdP (s:BA0):Prop:=
 1<=s.size-pfx s/\s.size-pfx s<=9/\(∀j,j<s.size-pfx s->zfa (bt s (pfx s+j)))/\(bt s (pfx s)≠48∨(pfx s=0/\s.size=1))
def zfB (s:BA0):Bool:=decide (RdP s)
def rdV (s:BA0):Int:=if zfB s then (if pfx s=1 then-dv s 1 (s.size-1) else dv s 0 s.size) else 0
theorem zg5 (h:RdP s):zfB s=true:=decide_eq_true h
theorem zee (h: ¬RdP s):zfB s=false:=dF h
theorem zfb (h: ¬RdP s):rdV s=0:=by rw[rdV,zee h];rfl
def spV (s:BA0):Nat->Int
 |0=>0
 |k+1=>if zfa (bt s k) then spV s k*10+(bt s k-48) else spV s k
def spK (s:BA0):Nat->Int
 |0=>0
 |k+1=>if zfa (bt s k) then spK s k+1 else spK s k
def spN (s:BA0):Int:=if bt s 0=45 then-spV s s.size else spV s s.size
