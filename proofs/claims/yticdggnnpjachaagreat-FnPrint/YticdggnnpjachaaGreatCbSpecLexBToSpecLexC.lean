/-
  What spec's parts of Lex answer: l3Word,l3Num,l3Str,l3Skip: the walks.
  What spec's parts of Lex answer: l3Num,l3Skip: the walks.
-/
import Derived.Test.YticdggnnpjachaaGreatCbDrawBaseToDrawText
namespace Go.Proofs.YticdggnnpjachaaGreat
set_option maxHeartbeats 3200000
open Go.RowKit Go.PlainAid
theorem zl0 {c:Int} {j:Bool} (h:zav c j=true):zG j c=true:=by simp[zG,h]
theorem zl1 {c:Int} {j:Bool} (h:zF c=true):zG j c=true:=by simp[zG,h]
theorem zl2 {c:Int} {j:Bool} (h:zav c j=false) (k:zF c=false):zG j c=false:=by simp[zG,h,k]
theorem zeC {p:Int→Bool} {s:ByteArray} {a k:Nat} (h: ∀j,a≤j→j<k→p (bt s j)=true) (n:p (bt s k)=true): ∀j,a≤j→j<k+1→p (bt s j)=true:=by
 intro j o q
 by_cases e:j=k
 ·rw[e];exact n
 ·exact h j o (by omega)
theorem zl3 (s:ByteArray) (a:Nat) (o:Bool) (w:World) (O:a≤s.size) (X:s.size≤4294967296):
  Calls Tryz.prog 125 #[.string s,.int .i64 a,.bool o] w fun e D=>∃n:Nat,e= .returned (.int .i64 n)∧zaw (zG o) s a n∧D=w:=by
 have U:=get_bt s
 go_enter Tryz.func125,Tryz.ntmps125
 go_wp2
 go_loop [1] (fun i=>∃k:Nat,a≤k∧k≤s.size∧i= .int .i64 k∧∀j,a≤j→j<k→zG o (bt s j)=true) (fun i=>(s.size-intOf i).toNat)
 case atStart=>exact⟨a,Nat.le_refl _,O,rfl,fun j V Q=>by omega⟩
 case round=>
  obtain⟨k,H,E,rfl,I⟩:=hrel
  have A:Hid (∀j,a≤j→j<k→zG o (bt s j)=true):=I
  clear I
  by_cases J:k<s.size
  ·have q:=bt_nonneg s k
   have z:=bt_le s k
   cases M:zav (bt s k) o with
   |true=>
    have L:Hid (∀j,a≤j→j<k+1→zG o (bt s j)=true):=zeC A.out (zl0 M)
    go_wp2_with (first|(go_at_call 124;refine (zcE _ _ _ q z).mono ?_;rintro e D ⟨rfl,rfl⟩)|(go_at_call 126;refine (zbM _ _ q z).mono ?_;rintro e D ⟨rfl,rfl⟩))
    go_round
    case rel=>exact⟨k+1,by omega,by omega,by go_num,L.out⟩
    case measure=>simp[intOf];omega
   |false=>
    cases N:zF (bt s k) with
    |true=>
     have L:Hid (∀j,a≤j→j<k+1→zG o (bt s j)=true):=zeC A.out (zl1 N)
     go_wp2_with (first|(go_at_call 124;refine (zcE _ _ _ q z).mono ?_;rintro e D ⟨rfl,rfl⟩)|(go_at_call 126;refine (zbM _ _ q z).mono ?_;rintro e D ⟨rfl,rfl⟩))
     go_round
     case rel=>exact⟨k+1,by omega,by omega,by go_num,L.out⟩
     case measure=>simp[intOf];omega
    |false=>
     have K:Hid (zaw (zG o) s a k):=⟨H,E,A.out,fun _=>zl2 M N⟩
     go_wp2_with (first|(go_at_call 124;refine (zcE _ _ _ q z).mono ?_;rintro e D ⟨rfl,rfl⟩)|(go_at_call 126;refine (zbM _ _ q z).mono ?_;rintro e D ⟨rfl,rfl⟩))
     go_ret
     exact⟨k,rfl,K.out,rfl⟩
  ·have K:Hid (zaw (zG o) s a k):=⟨H,E,A.out,fun h=>absurd h J⟩
   go_wp2
   go_ret
   exact⟨k,rfl,K.out,rfl⟩
theorem zfw {s:ByteArray} {a k:Nat} (n: ∀j,a<j→j<k→zbu (bt s j)) (h:s.size≤k∨a+42≤k): ∀e,¬zbl s a e:=by
 intro e ⟨h1,h2,h3,h4,_⟩
 exact absurd h4 (n (e-1) (by omega) (by omega)).2.2.1
theorem zfx {s:ByteArray} {a k:Nat} (q:a<k) (o: ∀j,a<j→j<k→zbu (bt s j)) (n:bt s k≠34) (h: ¬zbu (bt s k)): ∀e,¬zbl s a e:=by
 intro e ⟨h1,h2,h3,h4,h5⟩
 rcases Nat.lt_trichotomy (e-1) k with g|g|g
 ·exact absurd h4 (o (e-1) (by omega) g).2.2.1
 ·rw[g] at h4;exact n h4
 ·exact h (h5 k q (by omega))
theorem zl4 (s:ByteArray) (a:Nat) (w:World) (ha:a<s.size) (hs:s.size≤4294967296):
  Calls Tryz.prog 128 #[.string s,.int .i64 a] w fun e w'=>∃z:Int,e= .returned (.int .i64 z)∧((∃n:Nat,z=n∧zbl s a n)∨(z= -1∧∀n,¬zbl s a n))∧w'=w:=by
 have hb:=get_bt s
 go_enter Tryz.func128,Tryz.ntmps128
 go_wp2
 go_loop [5] (fun i=>∃k:Nat,a<k∧k≤s.size∧k≤a+42∧i= .int .i64 k∧∀j,a<j→j<k→zbu (bt s j)) (fun i=>(s.size-intOf i).toNat)
 case atStart=>exact⟨a+1,by omega,by omega,by omega,by go_num,fun j H J=>by omega⟩
 case round=>
  obtain⟨k,D,O,N,rfl,I⟩:=hrel
  have q:Hid (∀j,a<j→j<k→zbu (bt s j)):=I
  clear I
  by_cases V:k<s.size
  ·have Z:=bt_nonneg s k
   have aa:=bt_le s k
   by_cases M:k≤a+41
   ·have X:decide ((k:Int)≤(a:Int)+1+40)=true:=decide_eq_true (by omega)
    by_cases o:bt s k=34
    ·have HE:Hid (zbl s a (k+1)):=⟨by omega,by omega,by omega,by rw[Nat.add_sub_cancel];exact o,fun j H J=>q.out j H (by omega)⟩
     have K:(bt s k==34)=true:=by simpa using o
     clear o
     go_wp2
     go_ret
     exact⟨(k:Int)+1,rfl,.inl ⟨k+1,by omega,HE.out⟩,rfl⟩
    ·have K:(bt s k==34)=false:=by simpa using o
     by_cases H:bt s k<32
     ·have A:Hid (∀e,¬zbl s a e):=zfx D q.out o (fun h=>by have:=h.1;omega)
      have U:decide (bt s k<32)=true:=decide_eq_true H
      clear o
      go_wp2
      go_ret
      exact⟨-1,rfl,.inr ⟨rfl,A.out⟩,rfl⟩
     ·have U:decide (bt s k<32)=false:=decide_eq_false H
      by_cases J:126<bt s k
      ·have A:Hid (∀e,¬zbl s a e):=zfx D q.out o (fun h=>by have:=h.2.1;omega)
       have Y:decide (126<bt s k)=true:=decide_eq_true J
       clear o
       go_wp2
       go_ret
       exact⟨-1,rfl,.inr ⟨rfl,A.out⟩,rfl⟩
      ·have Y:decide (126<bt s k)=false:=decide_eq_false J
       by_cases E:bt s k=92
       ·have A:Hid (∀e,¬zbl s a e):=zfx D q.out o (fun h=>h.2.2.2 E)
        have L:(bt s k==92)=true:=by simpa using E
        clear o E K
        have K:(bt s k==34)=false:=beq_eq_false_iff_ne.2 (by have:=beq_iff_eq.1 L;omega)
        go_wp2
        go_ret
        exact⟨-1,rfl,.inr ⟨rfl,A.out⟩,rfl⟩
       ·have L:(bt s k==92)=false:=by simpa using E
        have HX:Hid (∀j,a<j→j<k+1→zbu (bt s j)):=fun j Q g2=>by
         by_cases e:j=k
         ·rw[e];exact⟨by omega,by omega,o,E⟩
         ·exact q.out j Q (by omega)
        clear o E
        go_wp2
        go_round
        case rel=>exact⟨k+1,by omega,by omega,by omega,by go_num,HX.out⟩
        case measure=>simp[intOf];omega
   ·have A:Hid (∀e,¬zbl s a e):=zfw q.out (.inr (by omega))
    have X:decide ((k:Int)≤(a:Int)+1+40)=false:=decide_eq_false (by omega)
    go_wp2
    go_ret
    exact⟨-1,rfl,.inr ⟨rfl,A.out⟩,rfl⟩
  ·have A:Hid (∀e,¬zbl s a e):=zfw q.out (.inl (by omega))
   go_wp2
   go_ret
   exact⟨-1,rfl,.inr ⟨rfl,A.out⟩,rfl⟩
theorem zhR {s:ByteArray} {a k e:Nat} {z:Bool} {n:Int} (o: ∀j,a≤j→j<k→zF (bt s j)=true) (h:zaP s a z n e):k≤e∨e<k∧s.size≤e:=by
 obtain⟨⟨D,H,E,A⟩,I,_⟩:=h
 rcases Nat.lt_or_ge e k with g|g
 ·right
  refine⟨g,?_⟩
  rcases Nat.lt_or_ge e s.size with q|q
  ·have:=o e D g
   rw[A q] at this
   cases this
  ·exact q
 ·exact .inl g
theorem zl5 {s:ByteArray} {a k:Nat} {q:Bool} (D:a<k) (A:k<s.size) (o: ∀j,a≤j→j<k+1→zF (bt s j)=true) (z:bt s a=48): ∀n e,¬zaP s a q n e:=by
 intro n e h
 have E:=zhR o h
 rcases h.2.2.1 with g|g
 ·omega
 ·exact g z
theorem zl6 {s:ByteArray} {a k:Nat} {q:Bool} (A:a≤k) (z:k<s.size) (o: ∀j,a≤j→j<k+1→zF (bt s j)=true) (I:1000000<zbv s a (k+1-a)): ∀n e,¬zaP s a q n e:=by
 intro n e h
 have J:=zhR o h
 have E:=zgf (s:=s) (a:=a) (k+1-a) (e-a) (fun j K=>(zch.1 (h.1.2.2.1 (a+j) (by omega) (by omega))).1) (by omega)
 have D:=h.2.2.2.1
 have H:=h.2.2.2.2.1
 omega
theorem zl7 {s:ByteArray} {a k:Nat} {j:Bool} (A:zaw zF s a k) (q:k<s.size) (z:zav (bt s k) j=true): ∀n e,¬zaP s a j n e:=by
 intro n e h
 have:=ze0 A h.1
 subst this
 have o:=h.2.2.2.2.2 q
 rw[z] at o
 cases o
theorem zl8 (s:ByteArray) (a:Nat) (o:Bool) (w:World) (ha:a<s.size) (U:zF (bt s a)=true) (hs:s.size≤4294967296):
  Calls Tryz.prog 127 #[.string s,.int .i64 a,.bool o] w fun e I=>∃n z:Int,e= .returned (.tuple #[.int .i64 n,.int .i64 z])∧((∃m:Nat,z=m∧zaP s a o n m)∨(n=0∧z= -1∧∀n m,¬zaP s a o n m))∧I=w:=by
 have hb:=get_bt s
 have Z:Hid (zF (bt s a)=true):=U
 clear U
 go_enter Tryz.func127,Tryz.ntmps127
 go_wp2
 go_loop [8,9] (fun n i=>∃(k:Nat) (v:Int),a≤k∧k≤s.size∧i= .int .i64 k∧n= .int .i64 v∧v=zbv s a (k-a)∧0≤v∧v≤1000000∧(k≤a+1∨bt s a≠48)∧∀j,a≤j→j<k→zF (bt s j)=true) (fun _ i=>(s.size-intOf i).toNat)
 case atStart=>exact⟨a,0,Nat.le_refl _,by omega,rfl,rfl,by rw[Nat.sub_self];rfl,by omega,by omega,.inl (by omega),fun j h1 h2=>by omega⟩
 case round=>
  obtain⟨k,v,J,M,rfl,rfl,hv,ad,Q,hz,V⟩:=hrel
  have K:Hid (∀j,a≤j→j<k→zF (bt s j)=true):=V
  have HV:Hid (v=zbv s a (k-a)):=hv
  have HZ:Hid (k≤a+1∨bt s a≠48):=hz
  clear V hv hz
  by_cases H:k<s.size
  ·have q:=bt_nonneg s k
   have A:=bt_le s k
   cases O:zF (bt s k) with
   |true=>
    have aa:=zch.1 O
    obtain⟨ab,ac⟩:=aa
    have X:Hid (∀j,a≤j→j<k+1→zF (bt s j)=true):=zeC K.out O
    by_cases D:a<k∧bt s a=48
    ·obtain⟨z1,Y⟩:=D
     have L:Hid (∀n e,¬zaP s a o n e):=zl5 z1 H X.out Y
     have q1:(bt s a==48)=true:=by simpa using Y
     clear Y
     go_wp2_with (first|(go_at_call 126;refine (zbM _ _ q A).mono ?_;rintro e I ⟨rfl,rfl⟩))
     go_ret2
     exact⟨0,-1,rfl,.inr ⟨rfl,rfl,L.out⟩,rfl⟩
    ·have HD:Hid (zbv s a (k+1-a)=v*10+(bt s k-48)):=by
      show zbv s a (k+1-a)=_
      rw[show k+1-a=(k-a)+1 from by omega,zbv,←HV.out,show a+(k-a)=k from by omega]
     have N:Hid (k+1≤a+1∨bt s a≠48):=by
      rcases Nat.lt_or_ge a k with g|g
      ·exact .inr fun h=>D ⟨g,h⟩
      ·exact .inl (by omega)
     by_cases hg:1000000<v*10+(bt s k-48)
     ·have L:Hid (∀n e,¬zaP s a o n e):=zl6 J H X.out (by rw[HD.out];exact hg)
      by_cases E:a<k
      ·have q1:(bt s a==48)=false:=beq_eq_false_iff_ne.2 (fun h=>D ⟨E,h⟩)
       clear D
       go_wp2_with (first|(go_at_call 126;refine (zbM _ _ q A).mono ?_;rintro e I ⟨rfl,rfl⟩))
       go_ret2
       exact⟨0,-1,rfl,.inr ⟨rfl,rfl,L.out⟩,rfl⟩
      ·clear D
       go_wp2_with (first|(go_at_call 126;refine (zbM _ _ q A).mono ?_;rintro e I ⟨rfl,rfl⟩))
       go_ret2
       exact⟨0,-1,rfl,.inr ⟨rfl,rfl,L.out⟩,rfl⟩
     ·by_cases E:a<k
      ·have q1:(bt s a==48)=false:=beq_eq_false_iff_ne.2 (fun h=>D ⟨E,h⟩)
       clear D
       go_wp2_with (first|(go_at_call 126;refine (zbM _ _ q A).mono ?_;rintro e I ⟨rfl,rfl⟩))
       go_round
       case rel=>exact⟨k+1,v*10+(bt s k-48),by omega,by omega,by go_num,by go_num,HD.out.symm,by omega,by omega,N.out,X.out⟩
       case measure=>simp[intOf];omega
      ·clear D
       go_wp2_with (first|(go_at_call 126;refine (zbM _ _ q A).mono ?_;rintro e I ⟨rfl,rfl⟩))
       go_round
       case rel=>exact⟨k+1,v*10+(bt s k-48),by omega,by omega,by go_num,by go_num,HD.out.symm,by omega,by omega,N.out,X.out⟩
       case measure=>simp[intOf];omega
   |false=>
    have HR:Hid (zaw zF s a k):=⟨J,M,K.out,fun _=>O⟩
    have E:a<k:=by
     rcases Nat.lt_or_ge a k with g|g
     ·exact g
     ·have e:k=a:=by omega
      rw[e,Z.out] at O
      cases O
    cases hl:zav (bt s k) o with
    |true=>
     have L:Hid (∀n e,¬zaP s a o n e):=zl7 HR.out H hl
     go_wp2_with (first|(go_at_call 124;refine (zcE _ _ _ q A).mono ?_;rintro e I ⟨rfl,rfl⟩)|(go_at_call 126;refine (zbM _ _ q A).mono ?_;rintro e I ⟨rfl,rfl⟩))
     go_ret2
     exact⟨0,-1,rfl,.inr ⟨rfl,rfl,L.out⟩,rfl⟩
    |false=>
     have HA:Hid (zaP s a o v k):=⟨HR.out,E,HZ.out.imp (fun g=>by omega) id,HV.out,Q,fun _=>hl⟩
     go_wp2_with (first|(go_at_call 124;refine (zcE _ _ _ q A).mono ?_;rintro e I ⟨rfl,rfl⟩)|(go_at_call 126;refine (zbM _ _ q A).mono ?_;rintro e I ⟨rfl,rfl⟩))
     go_ret2
     exact⟨v,k,rfl,.inl ⟨k,rfl,HA.out⟩,rfl⟩
  ·have E:a<k:=by omega
   have HA:Hid (zaP s a o v k):=⟨⟨J,M,K.out,fun h=>absurd h H⟩,E,HZ.out.imp (fun g=>by omega) id,HV.out,Q,fun h=>absurd h H⟩
   go_wp2
   go_ret2
   exact⟨v,k,rfl,.inl ⟨k,rfl,HA.out⟩,rfl⟩
theorem zhS (s:ByteArray) (a:Nat) (w:World) (ha:a≤s.size) (hs:s.size≤4294967296):
  Calls Tryz.prog 67 #[.string s,.int .i64 a] w fun e w'=>∃n:Nat,e= .returned (.int .i64 n)∧Skip s a n∧w'=w:=by
 have hb:=get_bt s
 go_enter Tryz.func67,Tryz.ntmps67
 go_wp2
 go_loop [1,5] (fun i _=>∃k:Nat,k≤s.size∧i= .int .i64 k∧∀c,Skip s k c→Skip s a c) (fun i _=>(s.size-intOf i).toNat)
 case atStart=>exact⟨a,ha,rfl,fun c h=>h⟩
 case round=>
  obtain⟨k,hk,rfl,O⟩:=hrel
  have D:Hid (∀c,Skip s k c→Skip s a c):=O
  clear O
  by_cases I:k<s.size
  ·have ac:=bt_nonneg s k
   have ae:=bt_le s k
   by_cases o:zcg (bt s k)
   ·have L:Hid (∀c,Skip s (k+1) c→Skip s a c):=fun c h=>D.out c (.blank I o h)
    have X:bt s k=9∨bt s k=10∨bt s k=13∨bt s k=32:=o
    clear o
    rcases X with q|q|q|q
    all_goals
     go_wp2
     go_round
     case rel=>exact⟨k+1,by omega,by go_num,L.out⟩
     case measure=>simp[intOf];omega
   ·have e1:(bt s k==9)=false:=beq_eq_false_iff_ne.2 (fun h=>o (.inl h))
    have e2:(bt s k==10)=false:=beq_eq_false_iff_ne.2 (fun h=>o (.inr (.inl h)))
    have e3:(bt s k==13)=false:=beq_eq_false_iff_ne.2 (fun h=>o (.inr (.inr (.inl h))))
    have e4:(bt s k==32)=false:=beq_eq_false_iff_ne.2 (fun h=>o (.inr (.inr (.inr h))))
    by_cases A:zbT s k
    ·obtain⟨E,Y,s3⟩:=A
     have Q:Hid (zbT s k):=⟨E,Y,s3⟩
     have q1:(bt s k !=47)=false:=by simp[E]
     have q2:(bt s (k+1) !=47)=false:=by simp[s3]
     have U:=bt_nonneg s (k+1)
     have aa:=bt_le s (k+1)
     have Z:Hid (bt s k≠10):=by show bt s k≠10;rw[E];omega
     clear E s3 o
     go_wp2
     go_loop [1] (fun i=>∃m:Nat,k≤m∧m≤s.size∧i= .int .i64 m∧∀j,k≤j→j<m→zbk (bt s j)=true) (fun i=>(s.size-intOf i).toNat)
     case atStart=>exact⟨k,Nat.le_refl _,hk,rfl,fun j h1 h2=>by omega⟩
     case round=>
      obtain⟨m,M,H,rfl,N⟩:=hrel
      have K:Hid (∀j,k≤j→j<m→zbk (bt s j)=true):=N
      clear N
      by_cases V:m<s.size
      ·have ab:=bt_nonneg s m
       have af:=bt_le s m
       by_cases z:bt s m=10
       ·have ad:k<m:=by
         rcases Nat.lt_or_ge k m with g|g
         ·exact g
         ·have e:m=k:=by omega
          rw[e] at z
          exact absurd z Z.out
        have J:Hid (zaw zbk s k m):=⟨M,H,K.out,fun _=>by simp[zbk,z]⟩
        have L:Hid (∀c,Skip s m c→Skip s a c):=fun c h=>D.out c (.comment I Q.out J.out h)
        have r1:(bt s m !=10)=false:=by simp[z]
        clear z
        go_wp2
        go_round
        case rel=>exact⟨m,H,rfl,L.out⟩
        case measure=>simp[intOf];omega
       ·have L:Hid (∀j,k≤j→j<m+1→zbk (bt s j)=true):=zeC K.out (by simp[zbk,z])
        have r1:(bt s m !=10)=true:=by simpa using z
        clear z
        go_wp2
        go_round
        case rel=>exact⟨m+1,by omega,by omega,by go_num,L.out⟩
        case measure=>simp[intOf];omega
      ·have J:Hid (zaw zbk s k m):=⟨M,H,K.out,fun h=>absurd h V⟩
       have L:Hid (∀c,Skip s m c→Skip s a c):=fun c h=>D.out c (.comment I Q.out J.out h)
       go_wp2
       go_round
       case rel=>exact⟨m,H,rfl,L.out⟩
       case measure=>simp[intOf];omega
    ·have J:Hid (Skip s a k):=D.out k (.stop I o A)
     clear o
     by_cases E:bt s k=47
     ·have q1:(bt s k !=47)=false:=by simp[E]
      by_cases Y:k+1<s.size
      ·have q2:(bt s (k+1) !=47)=true:=by simpa using fun h=>A ⟨E,Y,h⟩
       have U:=bt_nonneg s (k+1)
       have aa:=bt_le s (k+1)
       clear E A
       go_wp2
       go_ret
       exact⟨k,rfl,J.out,rfl⟩
      ·clear E A
       go_wp2
       go_ret
       exact⟨k,rfl,J.out,rfl⟩
     ·have q1:(bt s k !=47)=true:=by simpa using E
      clear E A
      go_wp2
      go_ret
      exact⟨k,rfl,J.out,rfl⟩
  ·have J:Hid (Skip s a k):=D.out k (by rw[show k=s.size from by omega];exact .done)
   go_wp2
   go_ret
   exact⟨k,rfl,J.out,rfl⟩
end Go.Proofs.YticdggnnpjachaaGreat
