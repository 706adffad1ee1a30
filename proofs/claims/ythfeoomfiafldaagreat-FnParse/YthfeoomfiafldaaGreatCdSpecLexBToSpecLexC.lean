/-
  What spec's parts of Lex answer: l3Word,l3Num,l3Str,l3Skip: the walks.
  What spec's parts of Lex answer: l3Num,l3Skip: the walks.
-/
import Derived.Test.YthfeoomfiafldaaGreatCdDrawBaseToDrawText
namespace Go.Proofs.YthfeoomfiafldaaGreat
set_option maxHeartbeats 3200000
open Go.RowKit Go.PlainAid
theorem znZ {c:Int} {scr:Bool} (h:zam c scr=true):zB scr c=true:=by simp[zB,h]
theorem zoa {c:Int} {scr:Bool} (h:zG c=true):zB scr c=true:=by simp[zB,h]
theorem zob {c:Int} {scr:Bool} (h:zam c scr=false) (k:zG c=false):zB scr c=false:=by simp[zB,h,k]
theorem zf8 {p:Int→Bool} {s:ByteArray} {a k:Nat} (h: ∀j,a≤j→j<k→p (bt s j)=true) (o:p (bt s k)=true): ∀j,a≤j→j<k+1→p (bt s j)=true:=by
 intro j z D
 by_cases e:j=k
 ·rw[e];exact o
 ·exact h j z (by omega)
theorem zoc (s:ByteArray) (a:Nat) (scr:Bool) (w:World) (O:a≤s.size) (U:s.size≤4294967296):
  Calls Tryz.prog 67 #[.string s,.int .i64 a,.bool scr] w fun e E=>∃n:Nat,e= .returned (.int .i64 n)∧zax (zB scr) s a n∧E=w:=by
 have Q:=get_bt s
 go_enter Tryz.func67,Tryz.ntmps67
 go_wp2
 go_loop [1] (fun i=>∃k:Nat,a≤k∧k≤s.size∧i= .int .i64 k∧∀j,a≤j→j<k→zB scr (bt s j)=true) (fun i=>(s.size-intOf i).toNat)
 case atStart=>exact⟨a,Nat.le_refl _,O,rfl,fun j X V=>by omega⟩
 case round=>
  obtain⟨k,H,I,rfl,J⟩:=hrel
  have D:Hid (∀j,a≤j→j<k→zB scr (bt s j)=true):=J
  clear J
  by_cases M:k<s.size
  ·have z:=bt_nonneg s k
   have o:=bt_le s k
   cases N:zam (bt s k) scr with
   |true=>
    have K:Hid (∀j,a≤j→j<k+1→zB scr (bt s j)=true):=zf8 D.out (znZ N)
    go_wp2_with (first|(go_at_call 66;refine (zcR _ _ _ z o).mono ?_;rintro e E ⟨rfl,rfl⟩)|(go_at_call 68;refine (zcl _ _ z o).mono ?_;rintro e E ⟨rfl,rfl⟩))
    go_round
    case rel=>exact⟨k+1,by omega,by omega,by go_num,K.out⟩
    case measure=>simp[intOf];omega
   |false=>
    cases hd:zG (bt s k) with
    |true=>
     have K:Hid (∀j,a≤j→j<k+1→zB scr (bt s j)=true):=zf8 D.out (zoa hd)
     go_wp2_with (first|(go_at_call 66;refine (zcR _ _ _ z o).mono ?_;rintro e E ⟨rfl,rfl⟩)|(go_at_call 68;refine (zcl _ _ z o).mono ?_;rintro e E ⟨rfl,rfl⟩))
     go_round
     case rel=>exact⟨k+1,by omega,by omega,by go_num,K.out⟩
     case measure=>simp[intOf];omega
    |false=>
     have L:Hid (zax (zB scr) s a k):=⟨H,I,D.out,fun _=>zob N hd⟩
     go_wp2_with (first|(go_at_call 66;refine (zcR _ _ _ z o).mono ?_;rintro e E ⟨rfl,rfl⟩)|(go_at_call 68;refine (zcl _ _ z o).mono ?_;rintro e E ⟨rfl,rfl⟩))
     go_ret
     exact⟨k,rfl,L.out,rfl⟩
  ·have L:Hid (zax (zB scr) s a k):=⟨H,I,D.out,fun h=>absurd h M⟩
   go_wp2
   go_ret
   exact⟨k,rfl,L.out,rfl⟩
theorem zg2 {s:ByteArray} {a k:Nat} (o: ∀j,a<j→j<k→zbn (bt s j)) (h:s.size≤k∨a+42≤k): ∀e,¬zb8 s a e:=by
 intro e ⟨h1,h2,h3,h4,_⟩
 exact absurd h4 (o (e-1) (by omega) (by omega)).2.2.1
theorem zg3 {s:ByteArray} {a k:Nat} (D:a<k) (o: ∀j,a<j→j<k→zbn (bt s j)) (z:bt s k≠34) (h: ¬zbn (bt s k)): ∀e,¬zb8 s a e:=by
 intro e ⟨h1,h2,h3,h4,h5⟩
 rcases Nat.lt_trichotomy (e-1) k with g|g|g
 ·exact absurd h4 (o (e-1) (by omega) g).2.2.1
 ·rw[g] at h4;exact z h4
 ·exact h (h5 k D (by omega))
theorem zod (s:ByteArray) (a:Nat) (w:World) (ha:a<s.size) (hs:s.size≤4294967296):
  Calls Tryz.prog 70 #[.string s,.int .i64 a] w fun e w'=>∃z:Int,e= .returned (.int .i64 z)∧((∃n:Nat,z=n∧zb8 s a n)∨(z= -1∧∀n,¬zb8 s a n))∧w'=w:=by
 have hb:=get_bt s
 go_enter Tryz.func70,Tryz.ntmps70
 go_wp2
 go_loop [5] (fun i=>∃k:Nat,a<k∧k≤s.size∧k≤a+42∧i= .int .i64 k∧∀j,a<j→j<k→zbn (bt s j)) (fun i=>(s.size-intOf i).toNat)
 case atStart=>exact⟨a+1,by omega,by omega,by omega,by go_num,fun j J L=>by omega⟩
 case round=>
  obtain⟨k,H,Y,U,rfl,K⟩:=hrel
  have D:Hid (∀j,a<j→j<k→zbn (bt s j)):=K
  clear K
  by_cases X:k<s.size
  ·have V:=bt_nonneg s k
   have aa:=bt_le s k
   by_cases O:k≤a+41
   ·have Q:decide ((k:Int)≤(a:Int)+1+40)=true:=decide_eq_true (by omega)
    by_cases o:bt s k=34
    ·have HE:Hid (zb8 s a (k+1)):=⟨by omega,by omega,by omega,by rw[Nat.add_sub_cancel];exact o,fun j J L=>D.out j J (by omega)⟩
     have M:(bt s k==34)=true:=by simpa using o
     clear o
     go_wp2
     go_ret
     exact⟨(k:Int)+1,rfl,.inl ⟨k+1,by omega,HE.out⟩,rfl⟩
    ·have M:(bt s k==34)=false:=by simpa using o
     by_cases J:bt s k<32
     ·have E:Hid (∀e,¬zb8 s a e):=zg3 H D.out o (fun h=>by have:=h.1;omega)
      have q1:decide (bt s k<32)=true:=decide_eq_true J
      clear o
      go_wp2
      go_ret
      exact⟨-1,rfl,.inr ⟨rfl,E.out⟩,rfl⟩
     ·have q1:decide (bt s k<32)=false:=decide_eq_false J
      by_cases L:126<bt s k
      ·have E:Hid (∀e,¬zb8 s a e):=zg3 H D.out o (fun h=>by have:=h.2.1;omega)
       have q2:decide (126<bt s k)=true:=decide_eq_true L
       clear o
       go_wp2
       go_ret
       exact⟨-1,rfl,.inr ⟨rfl,E.out⟩,rfl⟩
      ·have q2:decide (126<bt s k)=false:=decide_eq_false L
       by_cases I:bt s k=92
       ·have E:Hid (∀e,¬zb8 s a e):=zg3 H D.out o (fun h=>h.2.2.2 I)
        have N:(bt s k==92)=true:=by simpa using I
        clear o I M
        have M:(bt s k==34)=false:=beq_eq_false_iff_ne.2 (by have:=beq_iff_eq.1 N;omega)
        go_wp2
        go_ret
        exact⟨-1,rfl,.inr ⟨rfl,E.out⟩,rfl⟩
       ·have N:(bt s k==92)=false:=by simpa using I
        have HX:Hid (∀j,a<j→j<k+1→zbn (bt s j)):=fun j Z g2=>by
         by_cases e:j=k
         ·rw[e];exact⟨by omega,by omega,o,I⟩
         ·exact D.out j Z (by omega)
        clear o I
        go_wp2
        go_round
        case rel=>exact⟨k+1,by omega,by omega,by omega,by go_num,HX.out⟩
        case measure=>simp[intOf];omega
   ·have E:Hid (∀e,¬zb8 s a e):=zg2 D.out (.inr (by omega))
    have Q:decide ((k:Int)≤(a:Int)+1+40)=false:=decide_eq_false (by omega)
    go_wp2
    go_ret
    exact⟨-1,rfl,.inr ⟨rfl,E.out⟩,rfl⟩
  ·have E:Hid (∀e,¬zb8 s a e):=zg2 D.out (.inl (by omega))
   go_wp2
   go_ret
   exact⟨-1,rfl,.inr ⟨rfl,E.out⟩,rfl⟩
theorem zjG {s:ByteArray} {a k e:Nat} {scr:Bool} {n:Int} (o: ∀j,a≤j→j<k→zG (bt s j)=true) (h:zbd s a scr n e):k≤e∨e<k∧s.size≤e:=by
 obtain⟨⟨z,I,H,D⟩,E,_⟩:=h
 rcases Nat.lt_or_ge e k with g|g
 ·right
  refine⟨g,?_⟩
  rcases Nat.lt_or_ge e s.size with q|q
  ·have:=o e z g
   rw[D q] at this
   cases this
  ·exact q
 ·exact .inl g
theorem zoe {s:ByteArray} {a k:Nat} {scr:Bool} (E:a<k) (z:k<s.size) (o: ∀j,a≤j→j<k+1→zG (bt s j)=true) (D:bt s a=48): ∀n e,¬zbd s a scr n e:=by
 intro n e h
 have H:=zjG o h
 rcases h.2.2.1 with g|g
 ·omega
 ·exact g D
theorem zof {s:ByteArray} {a k:Nat} {scr:Bool} (D:a≤k) (z:k<s.size) (o: ∀j,a≤j→j<k+1→zG (bt s j)=true) (H:1000000<zbo s a (k+1-a)): ∀n e,¬zbd s a scr n e:=by
 intro n e h
 have K:=zjG o h
 have J:=zgt (s:=s) (a:=a) (k+1-a) (e-a) (fun j I=>(zbV.1 (h.1.2.2.1 (a+j) (by omega) (by omega))).1) (by omega)
 have E:=h.2.2.2.1
 have L:=h.2.2.2.2.1
 omega
theorem zog {s:ByteArray} {a k:Nat} {scr:Bool} (D:zax zG s a k) (o:k<s.size) (z:zam (bt s k) scr=true): ∀n e,¬zbd s a scr n e:=by
 intro n e h
 have:=zfz D h.1
 subst this
 have j:=h.2.2.2.2.2 o
 rw[z] at j
 cases j
theorem zoh (s:ByteArray) (a:Nat) (scr:Bool) (w:World) (ha:a<s.size) (V:zG (bt s a)=true) (hs:s.size≤4294967296):
  Calls Tryz.prog 69 #[.string s,.int .i64 a,.bool scr] w fun e J=>∃n z:Int,e= .returned (.tuple #[.int .i64 n,.int .i64 z])∧((∃m:Nat,z=m∧zbd s a scr n m)∨(n=0∧z= -1∧∀n m,¬zbd s a scr n m))∧J=w:=by
 have hb:=get_bt s
 have aa:Hid (zG (bt s a)=true):=V
 clear V
 go_enter Tryz.func69,Tryz.ntmps69
 go_wp2
 go_loop [8,9] (fun n i=>∃(k:Nat) (v:Int),a≤k∧k≤s.size∧i= .int .i64 k∧n= .int .i64 v∧v=zbo s a (k-a)∧0≤v∧v≤1000000∧(k≤a+1∨bt s a≠48)∧∀j,a≤j→j<k→zG (bt s j)=true) (fun _ i=>(s.size-intOf i).toNat)
 case atStart=>exact⟨a,0,Nat.le_refl _,by omega,rfl,rfl,by rw[Nat.sub_self];rfl,by omega,by omega,.inl (by omega),fun j h1 h2=>by omega⟩
 case round=>
  obtain⟨k,v,L,O,rfl,rfl,hv,ad,N,hz,U⟩:=hrel
  have K:Hid (∀j,a≤j→j<k→zG (bt s j)=true):=U
  have HV:Hid (v=zbo s a (k-a)):=hv
  have HZ:Hid (k≤a+1∨bt s a≠48):=hz
  clear U hv hz
  by_cases I:k<s.size
  ·have o:=bt_nonneg s k
   have D:=bt_le s k
   cases hd:zG (bt s k) with
   |true=>
    have ab:=zbV.1 hd
    obtain⟨ae,ac⟩:=ab
    have X:Hid (∀j,a≤j→j<k+1→zG (bt s j)=true):=zf8 K.out hd
    by_cases E:a<k∧bt s a=48
    ·obtain⟨z1,Y⟩:=E
     have M:Hid (∀n e,¬zbd s a scr n e):=zoe z1 I X.out Y
     have q1:(bt s a==48)=true:=by simpa using Y
     clear Y
     go_wp2_with (first|(go_at_call 68;refine (zcl _ _ o D).mono ?_;rintro e J ⟨rfl,rfl⟩))
     go_ret2
     exact⟨0,-1,rfl,.inr ⟨rfl,rfl,M.out⟩,rfl⟩
    ·have HD:Hid (zbo s a (k+1-a)=v*10+(bt s k-48)):=by
      show zbo s a (k+1-a)=_
      rw[show k+1-a=(k-a)+1 from by omega,zbo,←HV.out,show a+(k-a)=k from by omega]
     have Q:Hid (k+1≤a+1∨bt s a≠48):=by
      rcases Nat.lt_or_ge a k with g|g
      ·exact .inr fun h=>E ⟨g,h⟩
      ·exact .inl (by omega)
     by_cases hg:1000000<v*10+(bt s k-48)
     ·have M:Hid (∀n e,¬zbd s a scr n e):=zof L I X.out (by rw[HD.out];exact hg)
      by_cases H:a<k
      ·have q1:(bt s a==48)=false:=beq_eq_false_iff_ne.2 (fun h=>E ⟨H,h⟩)
       clear E
       go_wp2_with (first|(go_at_call 68;refine (zcl _ _ o D).mono ?_;rintro e J ⟨rfl,rfl⟩))
       go_ret2
       exact⟨0,-1,rfl,.inr ⟨rfl,rfl,M.out⟩,rfl⟩
      ·clear E
       go_wp2_with (first|(go_at_call 68;refine (zcl _ _ o D).mono ?_;rintro e J ⟨rfl,rfl⟩))
       go_ret2
       exact⟨0,-1,rfl,.inr ⟨rfl,rfl,M.out⟩,rfl⟩
     ·by_cases H:a<k
      ·have q1:(bt s a==48)=false:=beq_eq_false_iff_ne.2 (fun h=>E ⟨H,h⟩)
       clear E
       go_wp2_with (first|(go_at_call 68;refine (zcl _ _ o D).mono ?_;rintro e J ⟨rfl,rfl⟩))
       go_round
       case rel=>exact⟨k+1,v*10+(bt s k-48),by omega,by omega,by go_num,by go_num,HD.out.symm,by omega,by omega,Q.out,X.out⟩
       case measure=>simp[intOf];omega
      ·clear E
       go_wp2_with (first|(go_at_call 68;refine (zcl _ _ o D).mono ?_;rintro e J ⟨rfl,rfl⟩))
       go_round
       case rel=>exact⟨k+1,v*10+(bt s k-48),by omega,by omega,by go_num,by go_num,HD.out.symm,by omega,by omega,Q.out,X.out⟩
       case measure=>simp[intOf];omega
   |false=>
    have HR:Hid (zax zG s a k):=⟨L,O,K.out,fun _=>hd⟩
    have H:a<k:=by
     rcases Nat.lt_or_ge a k with g|g
     ·exact g
     ·have e:k=a:=by omega
      rw[e,aa.out] at hd
      cases hd
    cases hl:zam (bt s k) scr with
    |true=>
     have M:Hid (∀n e,¬zbd s a scr n e):=zog HR.out I hl
     go_wp2_with (first|(go_at_call 66;refine (zcR _ _ _ o D).mono ?_;rintro e J ⟨rfl,rfl⟩)|(go_at_call 68;refine (zcl _ _ o D).mono ?_;rintro e J ⟨rfl,rfl⟩))
     go_ret2
     exact⟨0,-1,rfl,.inr ⟨rfl,rfl,M.out⟩,rfl⟩
    |false=>
     have Z:Hid (zbd s a scr v k):=⟨HR.out,H,HZ.out.imp (fun g=>by omega) id,HV.out,N,fun _=>hl⟩
     go_wp2_with (first|(go_at_call 66;refine (zcR _ _ _ o D).mono ?_;rintro e J ⟨rfl,rfl⟩)|(go_at_call 68;refine (zcl _ _ o D).mono ?_;rintro e J ⟨rfl,rfl⟩))
     go_ret2
     exact⟨v,k,rfl,.inl ⟨k,rfl,Z.out⟩,rfl⟩
  ·have H:a<k:=by omega
   have Z:Hid (zbd s a scr v k):=⟨⟨L,O,K.out,fun h=>absurd h I⟩,H,HZ.out.imp (fun g=>by omega) id,HV.out,N,fun h=>absurd h I⟩
   go_wp2
   go_ret2
   exact⟨v,k,rfl,.inl ⟨k,rfl,Z.out⟩,rfl⟩
theorem zjH (s:ByteArray) (a:Nat) (w:World) (ha:a≤s.size) (hs:s.size≤4294967296):
  Calls Tryz.prog 27 #[.string s,.int .i64 a] w fun e w'=>∃n:Nat,e= .returned (.int .i64 n)∧Skip s a n∧w'=w:=by
 have hb:=get_bt s
 go_enter Tryz.func27,Tryz.ntmps27
 go_wp2
 go_loop [1,5] (fun i _=>∃k:Nat,k≤s.size∧i= .int .i64 k∧∀c,Skip s k c→Skip s a c) (fun i _=>(s.size-intOf i).toNat)
 case atStart=>exact⟨a,ha,rfl,fun c h=>h⟩
 case round=>
  obtain⟨k,hk,rfl,U⟩:=hrel
  have H:Hid (∀c,Skip s k c→Skip s a c):=U
  clear U
  by_cases I:k<s.size
  ·have ad:=bt_nonneg s k
   have ah:=bt_le s k
   by_cases o:zbQ (bt s k)
   ·have L:Hid (∀c,Skip s (k+1) c→Skip s a c):=fun c h=>H.out c (.blank I o h)
    have ab:bt s k=9∨bt s k=10∨bt s k=13∨bt s k=32:=o
    clear o
    rcases ab with q|q|q|q
    all_goals
     go_wp2
     go_round
     case rel=>exact⟨k+1,by omega,by go_num,L.out⟩
     case measure=>simp[intOf];omega
   ·have e1:(bt s k==9)=false:=beq_eq_false_iff_ne.2 (fun h=>o (.inl h))
    have e2:(bt s k==10)=false:=beq_eq_false_iff_ne.2 (fun h=>o (.inr (.inl h)))
    have e3:(bt s k==13)=false:=beq_eq_false_iff_ne.2 (fun h=>o (.inr (.inr (.inl h))))
    have e4:(bt s k==32)=false:=beq_eq_false_iff_ne.2 (fun h=>o (.inr (.inr (.inr h))))
    by_cases D:zck s k
    ·obtain⟨E,Y,Z⟩:=D
     have N:Hid (zck s k):=⟨E,Y,Z⟩
     have q1:(bt s k !=47)=false:=by simp[E]
     have q2:(bt s (k+1) !=47)=false:=by simp[Z]
     have ac:=bt_nonneg s (k+1)
     have V:=bt_le s (k+1)
     have aa:Hid (bt s k≠10):=by show bt s k≠10;rw[E];omega
     clear E Z o
     go_wp2
     go_loop [1] (fun i=>∃m:Nat,k≤m∧m≤s.size∧i= .int .i64 m∧∀j,k≤j→j<m→zb7 (bt s j)=true) (fun i=>(s.size-intOf i).toNat)
     case atStart=>exact⟨k,Nat.le_refl _,hk,rfl,fun j h1 h2=>by omega⟩
     case round=>
      obtain⟨m,Q,J,rfl,O⟩:=hrel
      have M:Hid (∀j,k≤j→j<m→zb7 (bt s j)=true):=O
      clear O
      by_cases X:m<s.size
      ·have af:=bt_nonneg s m
       have ae:=bt_le s m
       by_cases z:bt s m=10
       ·have ag:k<m:=by
         rcases Nat.lt_or_ge k m with g|g
         ·exact g
         ·have e:m=k:=by omega
          rw[e] at z
          exact absurd z aa.out
        have K:Hid (zax zb7 s k m):=⟨Q,J,M.out,fun _=>by simp[zb7,z]⟩
        have L:Hid (∀c,Skip s m c→Skip s a c):=fun c h=>H.out c (.comment I N.out K.out h)
        have r1:(bt s m !=10)=false:=by simp[z]
        clear z
        go_wp2
        go_round
        case rel=>exact⟨m,J,rfl,L.out⟩
        case measure=>simp[intOf];omega
       ·have L:Hid (∀j,k≤j→j<m+1→zb7 (bt s j)=true):=zf8 M.out (by simp[zb7,z])
        have r1:(bt s m !=10)=true:=by simpa using z
        clear z
        go_wp2
        go_round
        case rel=>exact⟨m+1,by omega,by omega,by go_num,L.out⟩
        case measure=>simp[intOf];omega
      ·have K:Hid (zax zb7 s k m):=⟨Q,J,M.out,fun h=>absurd h X⟩
       have L:Hid (∀c,Skip s m c→Skip s a c):=fun c h=>H.out c (.comment I N.out K.out h)
       go_wp2
       go_round
       case rel=>exact⟨m,J,rfl,L.out⟩
       case measure=>simp[intOf];omega
    ·have K:Hid (Skip s a k):=H.out k (.stop I o D)
     clear o
     by_cases E:bt s k=47
     ·have q1:(bt s k !=47)=false:=by simp[E]
      by_cases Y:k+1<s.size
      ·have q2:(bt s (k+1) !=47)=true:=by simpa using fun h=>D ⟨E,Y,h⟩
       have ac:=bt_nonneg s (k+1)
       have V:=bt_le s (k+1)
       clear E D
       go_wp2
       go_ret
       exact⟨k,rfl,K.out,rfl⟩
      ·clear E D
       go_wp2
       go_ret
       exact⟨k,rfl,K.out,rfl⟩
     ·have q1:(bt s k !=47)=true:=by simpa using E
      clear E D
      go_wp2
      go_ret
      exact⟨k,rfl,K.out,rfl⟩
  ·have K:Hid (Skip s a k):=H.out k (by rw[show k=s.size from by omega];exact .done)
   go_wp2
   go_ret
   exact⟨k,rfl,K.out,rfl⟩
end Go.Proofs.YthfeoomfiafldaaGreat
