/-
  What spec's parts of Lex answer: l3Word,l3Num,l3Str,l3Skip: the walks.
  What spec's parts of Lex answer: l3Num,l3Skip: the walks.
-/
import Derived.Test.YticdggnnpjachaaGreatCbDrawBaseToTokMem
namespace Go.Proofs.YticdggnnpjachaaGreat
set_option maxHeartbeats 3200000
open Go.RowKit Go.PlainAid
theorem zln {c:Int} {j:Bool} (h:zav c j=true):zG j c=true:=by simp[zG,h]
theorem zlo {c:Int} {j:Bool} (h:zF c=true):zG j c=true:=by simp[zG,h]
theorem zlp {c:Int} {j:Bool} (h:zav c j=false) (k:zF c=false):zG j c=false:=by simp[zG,h,k]
theorem zeA {p:Int→Bool} {s:ByteArray} {a k:Nat} (h: ∀j,a≤j→j<k→p (bt s j)=true) (n:p (bt s k)=true): ∀j,a≤j→j<k+1→p (bt s j)=true:=by
 intro j o q
 by_cases e:j=k
 ·rw[e];exact n
 ·exact h j o (by omega)
theorem zlq (s:ByteArray) (a:Nat) (o:Bool) (w:World) (O:a≤s.size) (X:s.size≤4294967296):
  Calls Tryz.prog 125 #[.string s,.int .i64 a,.bool o] w fun e D=>∃n:Nat,e= .returned (.int .i64 n)∧zaw (zG o) s a n∧D=w:=by
 have U:=get_bt s
 go_enter Tryz.func125,Tryz.ntmps125
 go_wp2
 go_loop [1] (fun i=>∃k:Nat,a≤k∧k≤s.size∧i= .int .i64 k∧∀j,a≤j→j<k→zG o (bt s j)=true) (fun i=>(s.size-intOf i).toNat)
 case atStart=>exact⟨a,Nat.le_refl _,O,rfl,fun j V Q=>by omega⟩
 case round=>
  obtain⟨k,I,H,rfl,E⟩:=hrel
  have A:Hid (∀j,a≤j→j<k→zG o (bt s j)=true):=E
  clear E
  by_cases K:k<s.size
  ·have z:=bt_nonneg s k
   have q:=bt_le s k
   cases M:zav (bt s k) o with
   |true=>
    have L:Hid (∀j,a≤j→j<k+1→zG o (bt s j)=true):=zeA A.out (zln M)
    go_wp2_with (first|(go_at_call 124;refine (zcE _ _ _ z q).mono ?_;rintro e D ⟨rfl,rfl⟩)|(go_at_call 126;refine (zbM _ _ z q).mono ?_;rintro e D ⟨rfl,rfl⟩))
    go_round
    case rel=>exact⟨k+1,by omega,by omega,by go_num,L.out⟩
    case measure=>simp[intOf];omega
   |false=>
    cases N:zF (bt s k) with
    |true=>
     have L:Hid (∀j,a≤j→j<k+1→zG o (bt s j)=true):=zeA A.out (zlo N)
     go_wp2_with (first|(go_at_call 124;refine (zcE _ _ _ z q).mono ?_;rintro e D ⟨rfl,rfl⟩)|(go_at_call 126;refine (zbM _ _ z q).mono ?_;rintro e D ⟨rfl,rfl⟩))
     go_round
     case rel=>exact⟨k+1,by omega,by omega,by go_num,L.out⟩
     case measure=>simp[intOf];omega
    |false=>
     have J:Hid (zaw (zG o) s a k):=⟨I,H,A.out,fun _=>zlp M N⟩
     go_wp2_with (first|(go_at_call 124;refine (zcE _ _ _ z q).mono ?_;rintro e D ⟨rfl,rfl⟩)|(go_at_call 126;refine (zbM _ _ z q).mono ?_;rintro e D ⟨rfl,rfl⟩))
     go_ret
     exact⟨k,rfl,J.out,rfl⟩
  ·have J:Hid (zaw (zG o) s a k):=⟨I,H,A.out,fun h=>absurd h K⟩
   go_wp2
   go_ret
   exact⟨k,rfl,J.out,rfl⟩
theorem zfw {s:ByteArray} {a k:Nat} (n: ∀j,a<j→j<k→zbu (bt s j)) (h:s.size≤k∨a+42≤k): ∀e,¬zbl s a e:=by
 intro e ⟨h1,h2,h3,h4,_⟩
 exact absurd h4 (n (e-1) (by omega) (by omega)).2.2.1
theorem zfx {s:ByteArray} {a k:Nat} (q:a<k) (o: ∀j,a<j→j<k→zbu (bt s j)) (n:bt s k≠34) (h: ¬zbu (bt s k)): ∀e,¬zbl s a e:=by
 intro e ⟨h1,h2,h3,h4,h5⟩
 rcases Nat.lt_trichotomy (e-1) k with g|g|g
 ·exact absurd h4 (o (e-1) (by omega) g).2.2.1
 ·rw[g] at h4;exact n h4
 ·exact h (h5 k q (by omega))
theorem zlr (s:ByteArray) (a:Nat) (w:World) (ha:a<s.size) (hs:s.size≤4294967296):
  Calls Tryz.prog 128 #[.string s,.int .i64 a] w fun e w'=>∃z:Int,e= .returned (.int .i64 z)∧((∃n:Nat,z=n∧zbl s a n)∨(z= -1∧∀n,¬zbl s a n))∧w'=w:=by
 have hb:=get_bt s
 go_enter Tryz.func128,Tryz.ntmps128
 go_wp2
 go_loop [5] (fun i=>∃k:Nat,a<k∧k≤s.size∧k≤a+42∧i= .int .i64 k∧∀j,a<j→j<k→zbu (bt s j)) (fun i=>(s.size-intOf i).toNat)
 case atStart=>exact⟨a+1,by omega,by omega,by omega,by go_num,fun j I J=>by omega⟩
 case round=>
  obtain⟨k,D,Y,U,rfl,H⟩:=hrel
  have q:Hid (∀j,a<j→j<k→zbu (bt s j)):=H
  clear H
  by_cases Q:k<s.size
  ·have X:=bt_nonneg s k
   have O:=bt_le s k
   by_cases L:k≤a+41
   ·have q0:decide ((k:Int)≤(a:Int)+1+40)=true:=decide_eq_true (by omega)
    by_cases o:bt s k=34
    ·have N:Hid (zbl s a (k+1)):=⟨by omega,by omega,by omega,by rw[Nat.add_sub_cancel];exact o,fun j I J=>q.out j I (by omega)⟩
     have K:(bt s k==34)=true:=by simpa using o
     clear o
     go_wp2
     go_ret
     exact⟨(k:Int)+1,rfl,.inl ⟨k+1,by omega,N.out⟩,rfl⟩
    ·have K:(bt s k==34)=false:=by simpa using o
     by_cases I:bt s k<32
     ·have A:Hid (∀e,¬zbl s a e):=zfx D q.out o (fun h=>by have:=h.1;omega)
      have V:decide (bt s k<32)=true:=decide_eq_true I
      clear o
      go_wp2
      go_ret
      exact⟨-1,rfl,.inr ⟨rfl,A.out⟩,rfl⟩
     ·have V:decide (bt s k<32)=false:=decide_eq_false I
      by_cases J:126<bt s k
      ·have A:Hid (∀e,¬zbl s a e):=zfx D q.out o (fun h=>by have:=h.2.1;omega)
       have q2:decide (126<bt s k)=true:=decide_eq_true J
       clear o
       go_wp2
       go_ret
       exact⟨-1,rfl,.inr ⟨rfl,A.out⟩,rfl⟩
      ·have q2:decide (126<bt s k)=false:=decide_eq_false J
       by_cases E:bt s k=92
       ·have A:Hid (∀e,¬zbl s a e):=zfx D q.out o (fun h=>h.2.2.2 E)
        have M:(bt s k==92)=true:=by simpa using E
        clear o E K
        have K:(bt s k==34)=false:=beq_eq_false_iff_ne.2 (by have:=beq_iff_eq.1 M;omega)
        go_wp2
        go_ret
        exact⟨-1,rfl,.inr ⟨rfl,A.out⟩,rfl⟩
       ·have M:(bt s k==92)=false:=by simpa using E
        have Z:Hid (∀j,a<j→j<k+1→zbu (bt s j)):=fun j g1 g2=>by
         by_cases e:j=k
         ·rw[e];exact⟨by omega,by omega,o,E⟩
         ·exact q.out j g1 (by omega)
        clear o E
        go_wp2
        go_round
        case rel=>exact⟨k+1,by omega,by omega,by omega,by go_num,Z.out⟩
        case measure=>simp[intOf];omega
   ·have A:Hid (∀e,¬zbl s a e):=zfw q.out (.inr (by omega))
    have q0:decide ((k:Int)≤(a:Int)+1+40)=false:=decide_eq_false (by omega)
    go_wp2
    go_ret
    exact⟨-1,rfl,.inr ⟨rfl,A.out⟩,rfl⟩
  ·have A:Hid (∀e,¬zbl s a e):=zfw q.out (.inl (by omega))
   go_wp2
   go_ret
   exact⟨-1,rfl,.inr ⟨rfl,A.out⟩,rfl⟩
theorem zhR {s:ByteArray} {a k e:Nat} {o:Bool} {n:Int} (z: ∀j,a≤j→j<k→zF (bt s j)=true) (h:zaP s a o n e):k≤e∨e<k∧s.size≤e:=by
 obtain⟨⟨A,E,I,D⟩,H,_⟩:=h
 rcases Nat.lt_or_ge e k with g|g
 ·right
  refine⟨g,?_⟩
  rcases Nat.lt_or_ge e s.size with q|q
  ·have:=z e A g
   rw[D q] at this
   cases this
  ·exact q
 ·exact .inl g
theorem zls {s:ByteArray} {a k:Nat} {o:Bool} (D:a<k) (z:k<s.size) (q: ∀j,a≤j→j<k+1→zF (bt s j)=true) (A:bt s a=48): ∀n e,¬zaP s a o n e:=by
 intro n e h
 have E:=zhR q h
 rcases h.2.2.1 with g|g
 ·omega
 ·exact g A
theorem zlt {s:ByteArray} {a k:Nat} {o:Bool} (A:a≤k) (z:k<s.size) (q: ∀j,a≤j→j<k+1→zF (bt s j)=true) (D:1000000<zbv s a (k+1-a)): ∀n e,¬zaP s a o n e:=by
 intro n e h
 have H:=zhR q h
 have E:=zgf (s:=s) (a:=a) (k+1-a) (e-a) (fun j J=>(zch.1 (h.1.2.2.1 (a+j) (by omega) (by omega))).1) (by omega)
 have K:=h.2.2.2.1
 have I:=h.2.2.2.2.1
 omega
theorem zlu {s:ByteArray} {a k:Nat} {j:Bool} (A:zaw zF s a k) (q:k<s.size) (z:zav (bt s k) j=true): ∀n e,¬zaP s a j n e:=by
 intro n e h
 have:=ze0 A h.1
 subst this
 have o:=h.2.2.2.2.2 q
 rw[z] at o
 cases o
theorem zlv (s:ByteArray) (a:Nat) (q:Bool) (w:World) (ha:a<s.size) (Q:zF (bt s a)=true) (hs:s.size≤4294967296):
  Calls Tryz.prog 127 #[.string s,.int .i64 a,.bool q] w fun e I=>∃n z:Int,e= .returned (.tuple #[.int .i64 n,.int .i64 z])∧((∃m:Nat,z=m∧zaP s a q n m)∨(n=0∧z= -1∧∀n m,¬zaP s a q n m))∧I=w:=by
 have hb:=get_bt s
 have aa:Hid (zF (bt s a)=true):=Q
 clear Q
 go_enter Tryz.func127,Tryz.ntmps127
 go_wp2
 go_loop [8,9] (fun n i=>∃(k:Nat) (v:Int),a≤k∧k≤s.size∧i= .int .i64 k∧n= .int .i64 v∧v=zbv s a (k-a)∧0≤v∧v≤1000000∧(k≤a+1∨bt s a≠48)∧∀j,a≤j→j<k→zF (bt s j)=true) (fun _ i=>(s.size-intOf i).toNat)
 case atStart=>exact⟨a,0,Nat.le_refl _,by omega,rfl,rfl,by rw[Nat.sub_self];rfl,by omega,by omega,.inl (by omega),fun j h1 h2=>by omega⟩
 case round=>
  obtain⟨k,v,K,U,rfl,rfl,hv,ac,O,hz,M⟩:=hrel
  have J:Hid (∀j,a≤j→j<k→zF (bt s j)=true):=M
  have HV:Hid (v=zbv s a (k-a)):=hv
  have HZ:Hid (k≤a+1∨bt s a≠48):=hz
  clear M hv hz
  by_cases H:k<s.size
  ·have A:=bt_nonneg s k
   have o:=bt_le s k
   cases V:zF (bt s k) with
   |true=>
    have ab:=zch.1 V
    obtain⟨ad,ae⟩:=ab
    have X:Hid (∀j,a≤j→j<k+1→zF (bt s j)=true):=zeA J.out V
    by_cases D:a<k∧bt s a=48
    ·obtain⟨z1,z2⟩:=D
     have L:Hid (∀n e,¬zaP s a q n e):=zls z1 H X.out z2
     have q1:(bt s a==48)=true:=by simpa using z2
     clear z2
     go_wp2_with (first|(go_at_call 126;refine (zbM _ _ A o).mono ?_;rintro e I ⟨rfl,rfl⟩))
     go_ret2
     exact⟨0,-1,rfl,.inr ⟨rfl,rfl,L.out⟩,rfl⟩
    ·have Z:Hid (zbv s a (k+1-a)=v*10+(bt s k-48)):=by
      show zbv s a (k+1-a)=_
      rw[show k+1-a=(k-a)+1 from by omega,zbv,←HV.out,show a+(k-a)=k from by omega]
     have N:Hid (k+1≤a+1∨bt s a≠48):=by
      rcases Nat.lt_or_ge a k with g|g
      ·exact .inr fun h=>D ⟨g,h⟩
      ·exact .inl (by omega)
     by_cases hg:1000000<v*10+(bt s k-48)
     ·have L:Hid (∀n e,¬zaP s a q n e):=zlt K H X.out (by rw[Z.out];exact hg)
      by_cases E:a<k
      ·have q1:(bt s a==48)=false:=beq_eq_false_iff_ne.2 (fun h=>D ⟨E,h⟩)
       clear D
       go_wp2_with (first|(go_at_call 126;refine (zbM _ _ A o).mono ?_;rintro e I ⟨rfl,rfl⟩))
       go_ret2
       exact⟨0,-1,rfl,.inr ⟨rfl,rfl,L.out⟩,rfl⟩
      ·clear D
       go_wp2_with (first|(go_at_call 126;refine (zbM _ _ A o).mono ?_;rintro e I ⟨rfl,rfl⟩))
       go_ret2
       exact⟨0,-1,rfl,.inr ⟨rfl,rfl,L.out⟩,rfl⟩
     ·by_cases E:a<k
      ·have q1:(bt s a==48)=false:=beq_eq_false_iff_ne.2 (fun h=>D ⟨E,h⟩)
       clear D
       go_wp2_with (first|(go_at_call 126;refine (zbM _ _ A o).mono ?_;rintro e I ⟨rfl,rfl⟩))
       go_round
       case rel=>exact⟨k+1,v*10+(bt s k-48),by omega,by omega,by go_num,by go_num,Z.out.symm,by omega,by omega,N.out,X.out⟩
       case measure=>simp[intOf];omega
      ·clear D
       go_wp2_with (first|(go_at_call 126;refine (zbM _ _ A o).mono ?_;rintro e I ⟨rfl,rfl⟩))
       go_round
       case rel=>exact⟨k+1,v*10+(bt s k-48),by omega,by omega,by go_num,by go_num,Z.out.symm,by omega,by omega,N.out,X.out⟩
       case measure=>simp[intOf];omega
   |false=>
    have HR:Hid (zaw zF s a k):=⟨K,U,J.out,fun _=>V⟩
    have E:a<k:=by
     rcases Nat.lt_or_ge a k with g|g
     ·exact g
     ·have e:k=a:=by omega
      rw[e,aa.out] at V
      cases V
    cases hl:zav (bt s k) q with
    |true=>
     have L:Hid (∀n e,¬zaP s a q n e):=zlu HR.out H hl
     go_wp2_with (first|(go_at_call 124;refine (zcE _ _ _ A o).mono ?_;rintro e I ⟨rfl,rfl⟩)|(go_at_call 126;refine (zbM _ _ A o).mono ?_;rintro e I ⟨rfl,rfl⟩))
     go_ret2
     exact⟨0,-1,rfl,.inr ⟨rfl,rfl,L.out⟩,rfl⟩
    |false=>
     have Y:Hid (zaP s a q v k):=⟨HR.out,E,HZ.out.imp (fun g=>by omega) id,HV.out,O,fun _=>hl⟩
     go_wp2_with (first|(go_at_call 124;refine (zcE _ _ _ A o).mono ?_;rintro e I ⟨rfl,rfl⟩)|(go_at_call 126;refine (zbM _ _ A o).mono ?_;rintro e I ⟨rfl,rfl⟩))
     go_ret2
     exact⟨v,k,rfl,.inl ⟨k,rfl,Y.out⟩,rfl⟩
  ·have E:a<k:=by omega
   have Y:Hid (zaP s a q v k):=⟨⟨K,U,J.out,fun h=>absurd h H⟩,E,HZ.out.imp (fun g=>by omega) id,HV.out,O,fun h=>absurd h H⟩
   go_wp2
   go_ret2
   exact⟨v,k,rfl,.inl ⟨k,rfl,Y.out⟩,rfl⟩
theorem zhS (s:ByteArray) (a:Nat) (w:World) (ha:a≤s.size) (hs:s.size≤4294967296):
  Calls Tryz.prog 67 #[.string s,.int .i64 a] w fun e w'=>∃n:Nat,e= .returned (.int .i64 n)∧Skip s a n∧w'=w:=by
 have hb:=get_bt s
 go_enter Tryz.func67,Tryz.ntmps67
 go_wp2
 go_loop [1,5] (fun i _=>∃k:Nat,k≤s.size∧i= .int .i64 k∧∀c,Skip s k c→Skip s a c) (fun i _=>(s.size-intOf i).toNat)
 case atStart=>exact⟨a,ha,rfl,fun c h=>h⟩
 case round=>
  obtain⟨k,hk,rfl,M⟩:=hrel
  have E:Hid (∀c,Skip s k c→Skip s a c):=M
  clear M
  by_cases I:k<s.size
  ·have ae:=bt_nonneg s k
   have ac:=bt_le s k
   by_cases o:zcg (bt s k)
   ·have L:Hid (∀c,Skip s (k+1) c→Skip s a c):=fun c h=>E.out c (.blank I o h)
    have Y:bt s k=9∨bt s k=10∨bt s k=13∨bt s k=32:=o
    clear o
    rcases Y with q|q|q|q
    all_goals
     go_wp2
     go_round
     case rel=>exact⟨k+1,by omega,by go_num,L.out⟩
     case measure=>simp[intOf];omega
   ·have e1:(bt s k==9)=false:=beq_eq_false_iff_ne.2 (fun h=>o (.inl h))
    have e2:(bt s k==10)=false:=beq_eq_false_iff_ne.2 (fun h=>o (.inr (.inl h)))
    have e3:(bt s k==13)=false:=beq_eq_false_iff_ne.2 (fun h=>o (.inr (.inr (.inl h))))
    have e4:(bt s k==32)=false:=beq_eq_false_iff_ne.2 (fun h=>o (.inr (.inr (.inr h))))
    by_cases A:zbT s k
    ·obtain⟨D,V,U⟩:=A
     have Q:Hid (zbT s k):=⟨D,V,U⟩
     have q1:(bt s k !=47)=false:=by simp[D]
     have q2:(bt s (k+1) !=47)=false:=by simp[U]
     have ab:=bt_nonneg s (k+1)
     have X:=bt_le s (k+1)
     have Z:Hid (bt s k≠10):=by show bt s k≠10;rw[D];omega
     clear D U o
     go_wp2
     go_loop [1] (fun i=>∃m:Nat,k≤m∧m≤s.size∧i= .int .i64 m∧∀j,k≤j→j<m→zbk (bt s j)=true) (fun i=>(s.size-intOf i).toNat)
     case atStart=>exact⟨k,Nat.le_refl _,hk,rfl,fun j h1 h2=>by omega⟩
     case round=>
      obtain⟨m,N,J,rfl,O⟩:=hrel
      have K:Hid (∀j,k≤j→j<m→zbk (bt s j)=true):=O
      clear O
      by_cases aa:m<s.size
      ·have af:=bt_nonneg s m
       have ad:=bt_le s m
       by_cases z:bt s m=10
       ·have ag:k<m:=by
         rcases Nat.lt_or_ge k m with g|g
         ·exact g
         ·have e:m=k:=by omega
          rw[e] at z
          exact absurd z Z.out
        have H:Hid (zaw zbk s k m):=⟨N,J,K.out,fun _=>by simp[zbk,z]⟩
        have L:Hid (∀c,Skip s m c→Skip s a c):=fun c h=>E.out c (.comment I Q.out H.out h)
        have r1:(bt s m !=10)=false:=by simp[z]
        clear z
        go_wp2
        go_round
        case rel=>exact⟨m,J,rfl,L.out⟩
        case measure=>simp[intOf];omega
       ·have L:Hid (∀j,k≤j→j<m+1→zbk (bt s j)=true):=zeA K.out (by simp[zbk,z])
        have r1:(bt s m !=10)=true:=by simpa using z
        clear z
        go_wp2
        go_round
        case rel=>exact⟨m+1,by omega,by omega,by go_num,L.out⟩
        case measure=>simp[intOf];omega
      ·have H:Hid (zaw zbk s k m):=⟨N,J,K.out,fun h=>absurd h aa⟩
       have L:Hid (∀c,Skip s m c→Skip s a c):=fun c h=>E.out c (.comment I Q.out H.out h)
       go_wp2
       go_round
       case rel=>exact⟨m,J,rfl,L.out⟩
       case measure=>simp[intOf];omega
    ·have H:Hid (Skip s a k):=E.out k (.stop I o A)
     clear o
     by_cases D:bt s k=47
     ·have q1:(bt s k !=47)=false:=by simp[D]
      by_cases V:k+1<s.size
      ·have q2:(bt s (k+1) !=47)=true:=by simpa using fun h=>A ⟨D,V,h⟩
       have ab:=bt_nonneg s (k+1)
       have X:=bt_le s (k+1)
       clear D A
       go_wp2
       go_ret
       exact⟨k,rfl,H.out,rfl⟩
      ·clear D A
       go_wp2
       go_ret
       exact⟨k,rfl,H.out,rfl⟩
     ·have q1:(bt s k !=47)=true:=by simpa using D
      clear D A
      go_wp2
      go_ret
      exact⟨k,rfl,H.out,rfl⟩
  ·have H:Hid (Skip s a k):=E.out k (by rw[show k=s.size from by omega];exact .done)
   go_wp2
   go_ret
   exact⟨k,rfl,H.out,rfl⟩
end Go.Proofs.YticdggnnpjachaaGreat
