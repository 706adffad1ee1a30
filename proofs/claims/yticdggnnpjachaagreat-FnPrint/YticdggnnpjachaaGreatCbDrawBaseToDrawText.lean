/-
  What the cursor's functions of the specification tell,and what they leave of it: l1New,l1Byte,l1Below,l1Once: the walks.
  What spec.l1Pick tells: one of the texts,none of them long: the walk.
  Tokens of a text,as plain relations: where a run of bytes ends,which token stands at a place,what is passed over,and that each of these is one alone. No program is spoken of.
  What spec's parts of Lex answer: l3Letter,l3Digit,l3Sign,l3Word,l3Num,l3Str,l3Skip: the walks.
  Plain facts on decimal digits. No program is spoken of.
  What impl.Dec and spec.Dec answer,at every number: the walks.
  Two small facts: a block more,and a fact laid by. No program is spoken of.
  Programs,as plain functions: what a row of tokens means. No program is spoken of.
  Texts of programs,as plain functions. No program is spoken of.
  An expression that is used once: the texts of all statements' expressions are together no longer than what all expressions cost. No program is spoken of.
  What the specification's draws of programs tell: some text,not a long one: the walks.
  What the specification's draw of an item tells: some text,not a long one: the walk.
  The row of the type byte.
  What l1Text of the specification tells: the walk.
-/
import Derived.Test.YticdggnnpjachaaGreatProg
import Derived.Deep.QuietTactic
import Derived.BigQuiet
import Derived.Test.YticdggnnpjachaaGreatCbDrawMath
namespace Go.Proofs.YticdggnnpjachaaGreat
set_option maxHeartbeats 12800000
set_option maxRecDepth 100000
open Go.RowKit Go.PlainAid
theorem zfl {T:TypeId} {S:Src} {w:World} {g:Nat} {q:Nat×Int} (h:zR T S w g q) (n:Nat):zR T S (w.drewN n) g q:=zbS h fun _ _=>rfl
theorem zcW (S:Src) (I:S.ok) (g:Nat) (q:Nat×Int) (w:World) (n:zR 147 S w g q):
  Calls Tryz.prog 155 #[.pointer (some ⟨g,0,none⟩)] w fun e L=>e= .returned (.int .i64 (cb S q).1)∧zR 147 S L g (cb S q).2∧w.grownBy L (some g):=by
 obtain⟨i,h⟩:=q
 obtain⟨D,o,H,V,aa⟩:=zk3 n
 have J:=I.1
 have N:=zky
 have U:=zh1
 simp only at o H
 by_cases z:i<S.len
 ·obtain⟨b,Q,X,O,E⟩:=n.2.2.2 i z
  have M:b<g:=Nat.lt_of_lt_of_le O n.2.1
  have hz:=I.2 i
  rw[X] at D
  have K:=zkz (h:=h) z
  have Y:=zgb (bits .xor .i64 (bh h/8589934592) (bh h/35184372088832))
  rw[zh1] at Y
  have A:Hid (zR 147 S w g (i,h)):=n
  have j:Hid (cb S (i,h)=(bits .and .i64 (bx h+S.Z i) 255,(i+1,bh h))):=K
  clear n K
  go_enter Tryz.func155,Tryz.ntmps155
  go_wp2
  go_quiet (fail)
  go_wp2
  go_quiet (fail)
  go_wp2
  go_quiet (fail)
  go_wp2
  go_ret
  refine⟨zdM (by rw[j.out]),?_,zgd (zdN (zgd (World.grownBy.refl _ _) _) _) _⟩
  rw[j.out]
  exact zk5 (zfl (zh3 A.out _) _) (i+1) (by omega)
 ·have A:Hid (zR 147 S w g (i,h)):=n
  have j:Hid (cb S (i,h)=(bx h,(i,bh h))):=zk0 z
  clear n
  go_enter Tryz.func155,Tryz.ntmps155
  go_wp2
  go_quiet (fail)
  go_wp2
  go_quiet (fail)
  go_wp2
  go_ret
  exact⟨zdM (by rw[j.out]),by rw[j.out];exact zfl (zfl (zh3 A.out _) _) _,zdN (zdN (zgd (World.grownBy.refl _ _) _) _) _⟩
theorem zk6 {S:Src} {q:Nat×Int} {n:Int} (h:n≤0):bw S q n=(0,q):=by rw[bw,if_pos h]
theorem zk7 {S:Src} {q:Nat×Int} {n:Int} (h: ¬n≤0) (k:n≤256):bw S q n=((cb S q).1%n,(cb S q).2):=by rw[bw,if_neg h,if_pos k]
theorem zk8 {S:Src} {q:Nat×Int} {n:Int} (h: ¬n≤0) (k: ¬n≤256):bw S q n=(((cb S q).1*16777216+(cb S (cb S q).2).1*65536+(cb S (cb S (cb S q).2).2).1*256+(cb S (cb S (cb S (cb S q).2).2).2).1)%n,(cb S (cb S (cb S (cb S q).2).2).2).2):=by rw[bw,if_neg h,if_neg k]
theorem zaD (S:Src) (z:S.ok) (g:Nat) (q:Nat×Int) (n:Int) (w:World) (E:zR 147 S w g q) (_:n≤9223372036854775807):
  Calls Tryz.prog 109 #[.pointer (some ⟨g,0,none⟩),.int .i64 n] w fun e N=>e= .returned (.int .i64 (bw S q n).1)∧zR 147 S N g (bw S q n).2∧w.grownBy N (some g):=by
 by_cases I:n≤0
 ·rw[zk6 I]
  go_enter Tryz.func109,Tryz.ntmps109
  go_wp2
  go_ret
  exact⟨rfl,E,World.grownBy.refl _ _⟩
 ·by_cases M:n≤256
  ·rw[zk7 I M]
   have Y:=zdt S q
   go_enter Tryz.func109,Tryz.ntmps109
   go_wp2_with fail
   refine (zcW S z g q _ E).mono ?_
   rintro e Q ⟨rfl,j,o⟩
   go_wp2
   go_ret
   exact⟨rfl,j,o⟩
  ·rw[zk8 I M]
   have X:=zdt S q
   have U:=zdt S (cb S q).2
   have V:=zdt S (cb S (cb S q).2).2
   have O:=zdt S (cb S (cb S (cb S q).2).2).2
   go_enter Tryz.func109,Tryz.ntmps109
   go_wp2_with fail
   refine (zcW S z g q _ E).mono ?_
   rintro e Q ⟨rfl,j,o⟩
   go_wp2_with fail
   refine (zcW S z g _ _ j).mono ?_
   rintro e w2 ⟨rfl,L,H⟩
   go_wp2_with fail
   refine (zcW S z g _ _ L).mono ?_
   rintro e w3 ⟨rfl,K,D⟩
   go_wp2_with fail
   refine (zcW S z g _ _ K).mono ?_
   rintro e Z ⟨rfl,J,A⟩
   go_wp2
   go_ret
   exact⟨rfl,J,zB (zB (zB o H) D) A⟩
theorem zcD (S:Src) (E:S.ok) (g:Nat) (q:Nat×Int) (n:Int) (w:World) (D:zR 147 S w g q) (A:n≤9223372036854775807):
  Calls Tryz.prog 53 #[.pointer (some ⟨g,0,none⟩),.int .i64 n] w fun e z=>e= .returned (.bool ((bw S q n).1==0))∧zR 147 S z g (bw S q n).2∧w.grownBy z (some g):=by
 go_enter Tryz.func53,Tryz.ntmps53
 go_wp2_with fail
 refine (zaD S E g q n _ D A).mono ?_
 rintro e H ⟨rfl,j,o⟩
 go_wp2
 go_ret
 exact⟨rfl,j,o⟩
theorem zk9 (y:Int):0≤bits .and .i64 y 1073741823∧bits .and .i64 y 1073741823≤1073741823:=by
 have e:bits .and .i64 y 1073741823=IntKind.i64.wrap (((BitVec.ofInt 64 y&&& BitVec.ofInt 64 1073741823).toNat:Nat):Int):=rfl
 have h:(BitVec.ofInt 64 y&&& BitVec.ofInt 64 1073741823).toNat≤1073741823:=by
  rw[BitVec.toNat_and]
  exact Nat.and_le_right
 rw[e,IntKind.wrap_i64]
 omega
theorem zkA (S:Src) (j:S.ok) (k:Nat):0≤zcU S k∧zcU S k≤1073741823:=by
 cases k with
 |zero=>have:=j.1;simp only[zcU];omega
 |succ k=>exact zk9 _
theorem zkB (S:Src) (D:S.ok) (w:World) (A:zct S w) (z:S.lim≤w.heap.size):
  Calls Tryz.prog 52 #[.slice S.a S.len S.cap] w fun e O=>e= .returned (.pointer (some ⟨w.heap.size,0,none⟩))∧zR 147 S O w.heap.size (start S)∧Below w.heap.size w O:=by
 have N:=D.1
 by_cases Y:0<S.len
 ·obtain⟨b,H,L,hb,K⟩:=A 0 Y
  have n: ∀j,j<S.len→w.cell? ⟨b,H+j,none⟩=some (.int .u8 (S.Z j)):=by
   intro j X
   obtain⟨b',M,q,Q,o⟩:=A j X
   rw[L] at q
   simp only[Option.some.injEq,Addr.mk.injEq,and_true] at q
   rw[q.1,q.2]
   exact o
  rw[L]
  go_enter Tryz.func52,Tryz.ntmps52
  go_wp2
  go_loop [3,4] (fun h i=>∃k:Nat,k≤S.len∧k≤4000∧i= .int .i64 k∧h= .int .i64 (zcU S k)) (fun _ i=>(4000-intOf i).toNat)
  case atStart=>exact⟨0,by omega,by omega,rfl,rfl⟩
  case round=>
   obtain⟨k,hk,V,rfl,rfl⟩:=hrel
   have hn:=zkA S D k
   have hz:=D.2 k
   by_cases I:k<S.len∧k<4000
   ·obtain⟨E,U⟩:=I
    have aa:=n k E
    clear n
    go_wp2
    go_round
    case rel=>exact⟨k+1,by omega,by omega,by go_num,rfl⟩
    case measure=>simp[intOf];omega
   ·have J:Hid (start S=(0,zcU S k)):=by
     show start S=_
     rw[start,show min S.len 4000=k from by omega]
    clear n
    by_cases ab:k<S.len
    all_goals
     go_wp2
     go_ret
     refine⟨rfl,?_,(Below.refl _ _).alloc (Nat.le_refl _) _⟩
     rw[J.out]
     refine⟨?_,z,by simp,zgc A ((Below.refl w.heap.size w).alloc (Nat.le_refl _) _) z⟩
     rw[heap_alloc_new,L]
     rfl
 ·have J:Hid (start S=(0,zcU S 0)):=by
   show start S=_
   rw[start,show min S.len 4000=0 from by omega]
  go_enter Tryz.func52,Tryz.ntmps52
  go_wp2
  go_loop [3,4] (fun h i=>i= .int .i64 0∧h= .int .i64 (zcU S 0)) (fun _ _=>0)
  case atStart=>exact⟨rfl,rfl⟩
  case round=>
   obtain⟨rfl,rfl⟩:=hrel
   go_wp2
   go_ret
   refine⟨rfl,?_,(Below.refl _ _).alloc (Nat.le_refl _) _⟩
   rw[J.out]
   refine⟨?_,z,by simp,zgc A ((Below.refl w.heap.size w).alloc (Nat.le_refl _) _) z⟩
   rw[heap_alloc_new]
   rfl
theorem zge (S:Src) (O:S.ok) (g:Nat) (q:Nat×Int) (b m N:Nat) (w:World) (H:zR 147 S w g q) (V:1≤m) (U:m≤1000)
  (D:b<w.heap.size) (A:b≠g) (n: ∀j,j<m→∃x,w.cell? ⟨b,j,none⟩=some (.string x)∧x.size≤N):
  Calls Tryz.prog 111 #[.pointer (some ⟨g,0,none⟩),.slice (some ⟨b,0,none⟩) m m] w fun e J=>∃x q',e= .returned (.string x)∧x.size≤N∧zR 147 S J g q'∧w.grownBy J (some g):=by
 have L:=zaV S q m (by omega)
 go_enter Tryz.func111,Tryz.ntmps111
 go_wp2_with fail
 refine (zaD S O g q m _ H (by omega)).mono ?_
 rintro e I ⟨rfl,o,z⟩
 obtain⟨x,Q,E⟩:=n (bw S q m).1.toNat (by omega)
 have M:I.cell? ⟨b,(bw S q m).1.toNat,none⟩=some (.string x):=by
  rw[←Q]
  exact World.cell?_of_block (w:=w) (a:=⟨b,_,none⟩) (z.block b D (by simpa using A))
 have K:Hid (zR 147 S I g (bw S q m).2):=o
 clear n H o
 go_wp2
 go_ret
 exact⟨x,_,rfl,E,K.out,z⟩
def zav (c:Int) (scr:Bool):Bool:=decide (97≤c∧c≤122)||decide (65≤c∧c≤90)||decide (c=95)||(scr&&decide (c=36))
def zF (c:Int):Bool:=decide (48≤c∧c≤57)
def zG (scr:Bool) (c:Int):Bool:=zav c scr||zF c
def zbk (c:Int):Bool:=decide (c≠10)
abbrev zcg (c:Int):Prop:=c=9∨c=10∨c=13∨c=32
abbrev zba (c:Int):Prop:=c=123∨c=125∨c=40∨c=41∨c=44∨c=59∨c=61∨c=46∨c=42∨c=43∨c=45
abbrev zbu (c:Int):Prop:=32≤c∧c≤126∧c≠34∧c≠92
theorem zdu {c:Int} {j:Bool}:zav c j=true↔(97≤c∧c≤122)∨(65≤c∧c≤90)∨c=95∨(j=true∧c=36):=by simp[zav,or_assoc]
theorem zch {c:Int}:zF c=true↔48≤c∧c≤57:=by simp[zF]
def zaw (p:Int→Bool) (s:ByteArray) (a e:Nat):Prop:=a≤e∧e≤s.size∧(∀j,a≤j→j<e→p (bt s j)=true)∧(e<s.size→p (bt s e)=false)
theorem ze0 {p:Int→Bool} {s:ByteArray} {a j n:Nat} (H:zaw p s a j) (A:zaw p s a n):j=n:=by
 obtain⟨E,K,q,z⟩:=H
 obtain⟨o,J,D,I⟩:=A
 rcases Nat.lt_trichotomy j n with h|h|h
 ·have:=D j E h
  rw[z (by omega)] at this
  cases this
 ·exact h
 ·have:=q n o h
  rw[I (by omega)] at this
  cases this
def zbv (s:ByteArray) (a:Nat):Nat→Int
 |0=>0
 |k+1=>zbv s a k*10+(bt s (a+k)-48)
def zaP (s:ByteArray) (a:Nat) (scr:Bool) (n:Int) (e:Nat):Prop:=
 zaw zF s a e∧a<e∧(e=a+1∨bt s a≠48)∧n=zbv s a (e-a)∧n≤1000000∧(e<s.size→zav (bt s e) scr=false)
theorem zkC {s:ByteArray} {a:Nat} {j:Bool} {n o:Int} {z D:Nat} (A:zaP s a j n z) (q:zaP s a j o D):n=o∧z=D:=by
 have E:=ze0 A.1 q.1
 subst E
 exact⟨A.2.2.2.1.trans q.2.2.2.1.symm,rfl⟩
theorem zgf {s:ByteArray} {a:Nat} (k m:Nat) (o: ∀j,j<m→48≤bt s (a+j)) (H:k≤m):0≤zbv s a k∧zbv s a k≤zbv s a m:=by
 have z: ∀m,(∀j,j<m→48≤bt s (a+j))→0≤zbv s a m:=by
  intro m
  induction m with
  |zero=>intro _;exact Int.le_refl _
  |succ m n=>
   intro h
   have q:=n (fun j D=>h j (by omega))
   have A:=h m (by omega)
   show 0≤zbv s a m*10+(bt s (a+m)-48)
   omega
 induction m with
 |zero=>
  obtain rfl:k=0:=by omega
  exact⟨Int.le_refl _,Int.le_refl _⟩
 |succ m n=>
  by_cases e:k=m+1
  ·subst e
   exact⟨z _ o,Int.le_refl _⟩
  ·obtain⟨q,A⟩:=n (fun j D=>o j (by omega)) (by omega)
   have E:=o m (by omega)
   refine⟨q,?_⟩
   show _≤zbv s a m*10+(bt s (a+m)-48)
   omega
def zbl (s:ByteArray) (a e:Nat):Prop:=a+2≤e∧e≤s.size∧e≤a+42∧bt s (e-1)=34∧∀j,a<j→j+1<e→zbu (bt s j)
theorem zkD {s:ByteArray} {a j n:Nat} (A:zbl s a j) (z:zbl s a n):j=n:=by
 obtain⟨L,M,J,q,o⟩:=A
 obtain⟨I,H,K,E,D⟩:=z
 rcases Nat.lt_trichotomy j n with h|h|h
 ·exact absurd q (D (j-1) (by omega) (by omega)).2.2.1
 ·exact h
 ·exact absurd E (o (n-1) (by omega) (by omega)).2.2.1
structure Tk where
 kind:Int
 text:ByteArray
 num:Int
 pos:Nat
def Tok (s:ByteArray) (scr:Bool) (a:Nat) (t:Tk) (e:Nat):Prop:=
 (zav (bt s a) scr=true∧zaw (zG scr) s a e∧t=⟨1,s.extract a e,0,a⟩)∨(∃n,zF (bt s a)=true∧zaP s a scr n e∧t=⟨2,{data:=#[]},n,a⟩)∨(bt s a=34∧zbl s a e∧t=⟨3,s.extract (a+1) (e-1),0,a⟩)∨(zba (bt s a)∧t=⟨4,s.extract a (a+1),0,a⟩∧e=a+1)
theorem Tok.name {s:ByteArray} {j:Bool} {a e:Nat} (h:zav (bt s a) j=true) (n:zaw (zG j) s a e):Tok s j a ⟨1,s.extract a e,0,a⟩ e:=.inl ⟨h,n,rfl⟩
theorem Tok.num {s:ByteArray} {j:Bool} {a e:Nat} {n:Int} (h:zF (bt s a)=true) (o:zaP s a j n e):Tok s j a ⟨2,{data:=#[]},n,a⟩ e:=.inr (.inl ⟨n,h,o,rfl⟩)
theorem Tok.str {s:ByteArray} {j:Bool} {a e:Nat} (h:bt s a=34) (n:zbl s a e):Tok s j a ⟨3,s.extract (a+1) (e-1),0,a⟩ e:=.inr (.inr (.inl ⟨h,n,rfl⟩))
theorem Tok.sign {s:ByteArray} {j:Bool} {a:Nat} (h:zba (bt s a)):Tok s j a ⟨4,s.extract a (a+1),0,a⟩ (a+1):=.inr (.inr (.inr ⟨h,rfl,rfl⟩))
theorem Tok.elim {s:ByteArray} {scr:Bool} {a:Nat} {motive:(t:Tk)→(e:Nat)→Tok s scr a t e→Prop} {t:Tk} {e:Nat} (h:Tok s scr a t e) (name: ∀{e:Nat} (h:zav (bt s a) scr=true) (he:zaw (zG scr) s a e),motive _ e (.name h he)) (num: ∀{n:Int} {e:Nat} (h:zF (bt s a)=true) (he:zaP s a scr n e),motive _ e (.num h he)) (str: ∀{e:Nat} (h:bt s a=34) (he:zbl s a e),motive _ e (.str h he)) (sign: ∀(h:zba (bt s a)),motive _ _ (.sign h)):motive t e h:=by
 rcases h with ⟨h1,h2,rfl⟩|⟨n,h1,h2,rfl⟩|⟨h1,h2,rfl⟩|⟨h1,rfl,rfl⟩
 ·exact name h1 h2
 ·exact num h1 h2
 ·exact str h1 h2
 ·exact sign h1
theorem zdO {c:Int} {j:Bool} (h:zav c j=true):zF c=false∧c≠34∧¬zba c:=by
 rw[zdu] at h
 refine⟨decide_eq_false (by omega),by omega,by unfold zba;omega⟩
theorem zdP {c:Int} (h:zF c=true):c≠34∧¬zba c:=by
 rw[zch] at h
 exact⟨by omega,by unfold zba;omega⟩
theorem zkE {s:ByteArray} {z:Bool} {a:Nat} {H D:Tk} {E I:Nat} (J:Tok s z a H E) (A:Tok s z a D I):H=D∧E=I:=by
 cases J using Tok.elim with
 |name h q=>
  have o:=zdO h
  cases A using Tok.elim with
  |name j n=>have:=ze0 q n;subst this;exact⟨rfl,rfl⟩
  |num j n=>rw[o.1] at j;cases j
  |str j n=>exact absurd j o.2.1
  |sign j=>exact absurd j o.2.2
 |num h q=>
  have o:=zdP h
  cases A using Tok.elim with
  |name j n=>rw[(zdO j).1] at h;cases h
  |num j n=>obtain⟨rfl,rfl⟩:=zkC q n;exact⟨rfl,rfl⟩
  |str j n=>exact absurd j o.1
  |sign j=>exact absurd j o.2
 |str h q=>
  cases A using Tok.elim with
  |name j n=>exact absurd h (zdO j).2.1
  |num j n=>exact absurd h (zdP j).1
  |str j n=>have:=zkD q n;subst this;exact⟨rfl,rfl⟩
  |sign j=>rw[h] at j;unfold zba at j;omega
 |sign h=>
  cases A using Tok.elim with
  |name j n=>exact absurd h (zdO j).2.2
  |num j n=>exact absurd h (zdP j).2
  |str j n=>rw[j] at h;unfold zba at h;omega
  |sign j=>exact⟨rfl,rfl⟩
theorem zdQ {s:ByteArray} {n:Bool} {a:Nat} {t:Tk} {e:Nat} (o:a<s.size) (h:Tok s n a t e):a<e∧e≤s.size∧t.pos=a:=by
 cases h using Tok.elim with
 |name h j=>
  refine⟨?_,j.2.1,rfl⟩
  rcases Nat.lt_or_ge a e with k|k
  ·exact k
  ·have q:e=a:=by have:=j.1;omega
   subst q
   have:=j.2.2.2 o
   simp[zG,h] at this
 |num h j=>exact⟨j.2.1,j.1.2.1,rfl⟩
 |str h j=>exact⟨by have:=j.1;omega,j.2.1,rfl⟩
 |sign h=>exact⟨by omega,by omega,rfl⟩
abbrev zbT (s:ByteArray) (a:Nat):Prop:=bt s a=47∧a+1<s.size∧bt s (a+1)=47
def zkF (s:ByteArray) (P:Nat→Nat→Prop):Prop:=P s.size s.size∧(∀a,a<s.size→¬zcg (bt s a)→¬zbT s a→P a a)∧(∀a b,a<s.size→zcg (bt s a)→P (a+1) b→P a b)∧∀a c b,a<s.size→zbT s a→zaw zbk s a c→P c b→P a b
def Skip (s:ByteArray) (a b:Nat):Prop:=∀P,zkF s P→P a b
theorem Skip.done {s:ByteArray}:Skip s s.size s.size:=fun _ k=>k.1
theorem Skip.stop {s:ByteArray} {a:Nat} (h:a<s.size) (n: ¬zcg (bt s a)) (j: ¬zbT s a):Skip s a a:=fun _ k=>k.2.1 a h n j
theorem Skip.blank {s:ByteArray} {a b:Nat} (h:a<s.size) (j:zcg (bt s a)) (r:Skip s (a+1) b):Skip s a b:=fun P k=>k.2.2.1 a b h j (r P k)
theorem Skip.comment {s:ByteArray} {a c b:Nat} (h:a<s.size) (n:zbT s a) (j:zaw zbk s a c) (r:Skip s c b):Skip s a b:=fun P k=>k.2.2.2 a c b h n j (r P k)
theorem Skip.ind {s:ByteArray} {motive:(a b:Nat)→Skip s a b→Prop} {a b:Nat} (h:Skip s a b) (done:motive _ _ .done) (stop: ∀{a:Nat} (h:a<s.size) (h1: ¬zcg (bt s a)) (h2: ¬zbT s a),motive a a (.stop h h1 h2)) (blank: ∀{a b:Nat} (h:a<s.size) (h1:zcg (bt s a)) (r:Skip s (a+1) b),motive _ _ r→motive a b (.blank h h1 r)) (comment: ∀{a c b:Nat} (h:a<s.size) (h1:zbT s a) (hc:zaw zbk s a c) (r:Skip s c b),motive _ _ r→motive a b (.comment h h1 hc r)):motive a b h:=
 (h (fun a b=>∃k,motive a b k) ⟨⟨_,done⟩,fun _ h h1 h2=>⟨_,stop h h1 h2⟩,fun _ _ h h1 ⟨r,k⟩=>⟨_,blank h h1 r k⟩,fun _ _ _ h h1 hc ⟨r,k⟩=>⟨_,comment h h1 hc r k⟩⟩).2
theorem Skip.elim {s:ByteArray} {motive:(a b:Nat)→Skip s a b→Prop} {a b:Nat} (h:Skip s a b) (done:motive _ _ .done) (stop: ∀{a:Nat} (h:a<s.size) (h1: ¬zcg (bt s a)) (h2: ¬zbT s a),motive a a (.stop h h1 h2)) (blank: ∀{a b:Nat} (h:a<s.size) (h1:zcg (bt s a)) (r:Skip s (a+1) b),motive a b (.blank h h1 r)) (comment: ∀{a c b:Nat} (h:a<s.size) (h1:zbT s a) (hc:zaw zbk s a c) (r:Skip s c b),motive a b (.comment h h1 hc r)):motive a b h:=
 h.ind done stop (fun h h1 r _=>blank h h1 r) (fun h h1 hc r _=>comment h h1 hc r)
theorem zh4 {s:ByteArray} {a:Nat} (h:zbT s a): ¬zcg (bt s a):=by rw[h.1];unfold zcg;omega
theorem zh5 {s:ByteArray} {a A b2:Nat} (E:Skip s a A):Skip s a b2→A=b2:=by
 induction E using Skip.ind with
 |done=>
  intro j
  generalize H:s.size=x at j
  cases j using Skip.elim with
  |done=>rfl
  |stop h _ _=>omega
  |blank h _ _=>omega
  |comment h _ _ _=>omega
 |stop h n z=>
  intro j
  cases j using Skip.elim with
  |done=>rfl
  |stop _ _ _=>rfl
  |blank _ k _=>exact absurd k n
  |comment _ k _ _=>exact absurd k z
 |blank h k _ q=>
  intro j
  cases j using Skip.elim with
  |done=>exact absurd h (Nat.lt_irrefl _)
  |stop _ n _=>exact absurd k n
  |blank _ _ r=>exact q r
  |comment _ n _ _=>exact absurd k (zh4 n)
 |comment h k D _ q=>
  intro j
  cases j using Skip.elim with
  |done=>exact absurd h (Nat.lt_irrefl _)
  |stop _ _ z=>exact absurd k z
  |blank _ n _=>exact absurd n (zh4 k)
  |comment _ _ o r=>have:=ze0 D o;subst this;exact q r
theorem zgg {s:ByteArray} {a b:Nat} (h:Skip s a b):a≤b∧b≤s.size:=by
 induction h using Skip.ind with
 |done=>exact⟨Nat.le_refl _,Nat.le_refl _⟩
 |stop h _ _=>exact⟨Nat.le_refl _,by omega⟩
 |blank h _ _ j=>exact⟨by omega,j.2⟩
 |comment h _ n _ j=>exact⟨by have:=n.1;omega,j.2⟩
def LxK (s:ByteArray) (scr:Bool) (P:Nat→Nat→Except Nat (List Tk)→Prop):Prop:=(∀n,P s.size n (.ok []))∧(∀a n,a<s.size→(4000≤n∨∀t e,¬Tok s scr a t e)→P a n (.error a))∧∀a n e b t r,a<s.size→n<4000→Tok s scr a t e→Skip s e b→P b (n+1) r→P a n (r.map (t:: ·))
def Lx (s:ByteArray) (scr:Bool) (a n:Nat) (r:Except Nat (List Tk)):Prop:=∀P,LxK s scr P→P a n r
theorem Lx.done {s:ByteArray} {j:Bool} {n:Nat}:Lx s j s.size n (.ok []):=fun _ k=>k.1 n
theorem Lx.bad {s:ByteArray} {j:Bool} {a n:Nat} (h:a<s.size) (o:4000≤n∨∀t e,¬Tok s j a t e):Lx s j a n (.error a):=fun _ k=>k.2.1 a n h o
theorem Lx.tok {s:ByteArray} {j:Bool} {a n e b:Nat} {t:Tk} {r:Except Nat (List Tk)} (h:a<s.size) (q:n<4000) (z:Tok s j a t e) (o:Skip s e b) (A:Lx s j b (n+1) r):Lx s j a n (r.map (t:: ·)):=fun P k=>k.2.2 a n e b t r h q z o (A P k)
theorem Lx.ind {s:ByteArray} {scr:Bool} {motive:(a n:Nat)→(r:Except Nat (List Tk))→Lx s scr a n r→Prop} {a n:Nat} {r:Except Nat (List Tk)} (h:Lx s scr a n r) (done: ∀{n:Nat},motive _ n _ .done) (bad: ∀{a n:Nat} (h:a<s.size) (h1:4000≤n∨∀t e,¬Tok s scr a t e),motive a n _ (.bad h h1)) (tok: ∀{a n e b:Nat} {t:Tk} {r:Except Nat (List Tk)} (h:a<s.size) (hn:n<4000) (ht:Tok s scr a t e) (hs:Skip s e b) (hr:Lx s scr b (n+1) r),motive _ _ _ hr→motive a n _ (.tok h hn ht hs hr)):motive a n r h:=
 (h (fun a n r=>∃k,motive a n r k) ⟨fun _=>⟨_,done⟩,fun _ _ h h1=>⟨_,bad h h1⟩,fun _ _ _ _ _ _ h hn ht hs ⟨hr,k⟩=>⟨_,tok h hn ht hs hr k⟩⟩).2
theorem Lx.elim {s:ByteArray} {scr:Bool} {motive:(a n:Nat)→(r:Except Nat (List Tk))→Lx s scr a n r→Prop} {a n:Nat} {r:Except Nat (List Tk)} (h:Lx s scr a n r) (done: ∀{n:Nat},motive _ n _ .done) (bad: ∀{a n:Nat} (h:a<s.size) (h1:4000≤n∨∀t e,¬Tok s scr a t e),motive a n _ (.bad h h1)) (tok: ∀{a n e b:Nat} {t:Tk} {r:Except Nat (List Tk)} (h:a<s.size) (hn:n<4000) (ht:Tok s scr a t e) (hs:Skip s e b) (hr:Lx s scr b (n+1) r),motive a n _ (.tok h hn ht hs hr)):motive a n r h:=
 h.ind done bad (fun h hn ht hs hr _=>tok h hn ht hs hr)
theorem zkG {s:ByteArray} {o:Bool} {a n:Nat} {E D:Except Nat (List Tk)} (K:Lx s o a n E):Lx s o a n D→E=D:=by
 induction K using Lx.ind generalizing D with
 |done=>
  intro j
  generalize L:s.size=x at j
  cases j using Lx.elim with
  |done=>rfl
  |bad h _=>omega
  |tok h _ _ _ _=>omega
 |bad h k=>
  intro j
  cases j using Lx.elim with
  |done=>exact absurd h (Nat.lt_irrefl _)
  |bad _ _=>rfl
  |tok _ I q _ _=>exact k.elim (fun k=>by omega) fun k=>absurd q (k _ _)
 |tok h I q H _ J=>
  intro j
  cases j using Lx.elim with
  |done=>exact absurd h (Nat.lt_irrefl _)
  |bad _ k=>exact k.elim (fun k=>by omega) fun k=>absurd q (k _ _)
  |tok _ _ A z r=>
   obtain⟨rfl,rfl⟩:=zkE q A
   have:=zh5 H z
   subst this
   rw[J r]
def zae (s:ByteArray) (scr:Bool) (r:Except Nat (List Tk)):Prop:=∃a,Skip s 0 a∧Lx s scr a 0 r
theorem zkH {s:ByteArray} {j:Bool} {n o:Except Nat (List Tk)} (E:zae s j n) (z:zae s j o):n=o:=by
 obtain⟨a,D,H⟩:=E
 obtain⟨b,q,A⟩:=z
 have:=zh5 D q
 subst this
 exact zkG H A
theorem zdv {c:Int} {j:Bool} (h: ¬((97≤c∧c≤122)∨(65≤c∧c≤90)∨c=95∨(j=true∧c=36))):zav c j=false:=by
 rw[Bool.eq_false_iff]
 exact fun k=>h (zdu.1 k)
theorem zh6 {c:Int} (h: ¬(48≤c∧c≤57)):zF c=false:=decide_eq_false h
theorem zcE (c:Int) (n:Bool) (w:World) (M:0≤c) (Q:c≤255):
  Calls Tryz.prog 124 #[.int .u8 c,.bool n] w fun e J=>e= .returned (.bool (zav c n))∧J=w:=by
 by_cases O:97≤c
 ·by_cases K:c≤122
  ·skip
   have o:decide (97≤c)=true:=decide_eq_true (by omega)
   have H:decide (c≤122)=true:=decide_eq_true (by omega)
   have j:Hid (zav c n=true):=zdu.2 (by first|omega|(simp;omega))
   go_enter Tryz.func124,Tryz.ntmps124
   go_wp2
   go_ret
   exact⟨zm j.out.symm,rfl⟩
  ·skip
   cases n with
   |true=>
    have o:decide (97≤c)=true:=decide_eq_true (by omega)
    have H:decide (c≤122)=false:=decide_eq_false (by omega)
    have q:decide (65≤c)=true:=decide_eq_true (by omega)
    have D:decide (c≤90)=false:=decide_eq_false (by omega)
    have z:(c==95)=false:=beq_eq_false_iff_ne.2 (by omega)
    have A:(c==36)=false:=beq_eq_false_iff_ne.2 (by omega)
    have j:Hid (zav c true=false):=zdv (by first|omega|(simp;omega))
    go_enter Tryz.func124,Tryz.ntmps124
    go_wp2
    go_ret
    exact⟨zm j.out.symm,rfl⟩
   |false=>
    have o:decide (97≤c)=true:=decide_eq_true (by omega)
    have H:decide (c≤122)=false:=decide_eq_false (by omega)
    have q:decide (65≤c)=true:=decide_eq_true (by omega)
    have D:decide (c≤90)=false:=decide_eq_false (by omega)
    have z:(c==95)=false:=beq_eq_false_iff_ne.2 (by omega)
    have A:(c==36)=false:=beq_eq_false_iff_ne.2 (by omega)
    have j:Hid (zav c false=false):=zdv (by first|omega|(simp;omega))
    go_enter Tryz.func124,Tryz.ntmps124
    go_wp2
    go_ret
    exact⟨zm j.out.symm,rfl⟩
 ·by_cases N:65≤c
  ·by_cases L:c≤90
   ·skip
    have o:decide (97≤c)=false:=decide_eq_false (by omega)
    have q:decide (65≤c)=true:=decide_eq_true (by omega)
    have D:decide (c≤90)=true:=decide_eq_true (by omega)
    have j:Hid (zav c n=true):=zdu.2 (by first|omega|(simp;omega))
    go_enter Tryz.func124,Tryz.ntmps124
    go_wp2
    go_ret
    exact⟨zm j.out.symm,rfl⟩
   ·by_cases I:c=95
    ·skip
     have o:decide (97≤c)=false:=decide_eq_false (by omega)
     have q:decide (65≤c)=true:=decide_eq_true (by omega)
     have D:decide (c≤90)=false:=decide_eq_false (by omega)
     have z:(c==95)=true:=beq_iff_eq.2 (by omega)
     have j:Hid (zav c n=true):=zdu.2 (by first|omega|(simp;omega))
     clear I
     go_enter Tryz.func124,Tryz.ntmps124
     go_wp2
     go_ret
     exact⟨zm j.out.symm,rfl⟩
    ·skip
     cases n with
     |true=>
      have o:decide (97≤c)=false:=decide_eq_false (by omega)
      have q:decide (65≤c)=true:=decide_eq_true (by omega)
      have D:decide (c≤90)=false:=decide_eq_false (by omega)
      have z:(c==95)=false:=beq_eq_false_iff_ne.2 (by omega)
      have A:(c==36)=false:=beq_eq_false_iff_ne.2 (by omega)
      have j:Hid (zav c true=false):=zdv (by first|omega|(simp;omega))
      go_enter Tryz.func124,Tryz.ntmps124
      go_wp2
      go_ret
      exact⟨zm j.out.symm,rfl⟩
     |false=>
      have o:decide (97≤c)=false:=decide_eq_false (by omega)
      have q:decide (65≤c)=true:=decide_eq_true (by omega)
      have D:decide (c≤90)=false:=decide_eq_false (by omega)
      have z:(c==95)=false:=beq_eq_false_iff_ne.2 (by omega)
      have A:(c==36)=false:=beq_eq_false_iff_ne.2 (by omega)
      have j:Hid (zav c false=false):=zdv (by first|omega|(simp;omega))
      go_enter Tryz.func124,Tryz.ntmps124
      go_wp2
      go_ret
      exact⟨zm j.out.symm,rfl⟩
  ·by_cases E:c=36
   ·skip
    cases n with
    |true=>
     have o:decide (97≤c)=false:=decide_eq_false (by omega)
     have q:decide (65≤c)=false:=decide_eq_false (by omega)
     have z:(c==95)=false:=beq_eq_false_iff_ne.2 (by omega)
     have A:(c==36)=true:=beq_iff_eq.2 (by omega)
     have j:Hid (zav c true=true):=zdu.2 (by first|omega|(simp;omega))
     clear E
     go_enter Tryz.func124,Tryz.ntmps124
     go_wp2
     go_ret
     exact⟨zm j.out.symm,rfl⟩
    |false=>
     have o:decide (97≤c)=false:=decide_eq_false (by omega)
     have q:decide (65≤c)=false:=decide_eq_false (by omega)
     have z:(c==95)=false:=beq_eq_false_iff_ne.2 (by omega)
     have A:(c==36)=true:=beq_iff_eq.2 (by omega)
     have j:Hid (zav c false=false):=zdv (by first|omega|(simp;omega))
     clear E
     go_enter Tryz.func124,Tryz.ntmps124
     go_wp2
     go_ret
     exact⟨zm j.out.symm,rfl⟩
   ·skip
    cases n with
    |true=>
     have o:decide (97≤c)=false:=decide_eq_false (by omega)
     have q:decide (65≤c)=false:=decide_eq_false (by omega)
     have z:(c==95)=false:=beq_eq_false_iff_ne.2 (by omega)
     have A:(c==36)=false:=beq_eq_false_iff_ne.2 (by omega)
     have j:Hid (zav c true=false):=zdv (by first|omega|(simp;omega))
     go_enter Tryz.func124,Tryz.ntmps124
     go_wp2
     go_ret
     exact⟨zm j.out.symm,rfl⟩
    |false=>
     have o:decide (97≤c)=false:=decide_eq_false (by omega)
     have q:decide (65≤c)=false:=decide_eq_false (by omega)
     have z:(c==95)=false:=beq_eq_false_iff_ne.2 (by omega)
     have A:(c==36)=false:=beq_eq_false_iff_ne.2 (by omega)
     have j:Hid (zav c false=false):=zdv (by first|omega|(simp;omega))
     go_enter Tryz.func124,Tryz.ntmps124
     go_wp2
     go_ret
     exact⟨zm j.out.symm,rfl⟩
theorem zbM (c:Int) (w:World) (D:0≤c) (E:c≤255):
  Calls Tryz.prog 126 #[.int .u8 c] w fun e A=>e= .returned (.bool (zF c))∧A=w:=by
 by_cases o:48≤c
 ·have q:decide (48≤c)=true:=decide_eq_true o
  by_cases n:c≤57
  ·have z:decide (c≤57)=true:=decide_eq_true n
   have j:Hid (zF c=true):=zch.2 ⟨o,n⟩
   go_enter Tryz.func126,Tryz.ntmps126
   go_wp2
   go_ret
   exact⟨zm j.out.symm,rfl⟩
  ·have z:decide (c≤57)=false:=decide_eq_false n
   have j:Hid (zF c=false):=zh6 (by omega)
   go_enter Tryz.func126,Tryz.ntmps126
   go_wp2
   go_ret
   exact⟨zm j.out.symm,rfl⟩
 ·have q:decide (48≤c)=false:=decide_eq_false o
  have j:Hid (zF c=false):=zh6 (by omega)
  go_enter Tryz.func126,Tryz.ntmps126
  go_wp2
  go_ret
  exact⟨zm j.out.symm,rfl⟩
def signS:ByteArray:={data:=#[123,125,40,41,44,59,61,46,42,43,45]}
theorem zkI (k:Nat) (h:k<11):zba (bt signS k):=by
 have: ∀k:Fin 11,zba (bt signS k.val):=by decide
 exact this ⟨k,h⟩
theorem zkJ (c:Int) (h:zba c): ∃k,k<11∧bt signS k=c:=by
 rcases h with rfl|rfl|rfl|rfl|rfl|rfl|rfl|rfl|rfl|rfl|rfl
 ·exact⟨0,by decide⟩
 ·exact⟨1,by decide⟩
 ·exact⟨2,by decide⟩
 ·exact⟨3,by decide⟩
 ·exact⟨4,by decide⟩
 ·exact⟨5,by decide⟩
 ·exact⟨6,by decide⟩
 ·exact⟨7,by decide⟩
 ·exact⟨8,by decide⟩
 ·exact⟨9,by decide⟩
 ·exact⟨10,by decide⟩
def ze1 (c:Int):Bool:=decide (zba c)
theorem zh7 (c:Int) (w:World):
  Calls Tryz.prog 129 #[.int .u8 c] w fun e L=>e= .returned (.bool (ze1 c))∧L=w:=by
 have M:=get_bt signS
 have E:signS.size=11:=rfl
 obtain⟨S,z⟩: ∃S,signS=S:=⟨_,rfl⟩
 have I:Hid (signS=S):=z
 rw[z] at M E
 go_enter Tryz.func129,Tryz.ntmps129
 go_wp2
 rw[show ({data:=#[123,125,40,41,44,59,61,46,42,43,45]}:ByteArray)=S from z]
 clear z
 go_loop [4] (fun i=>∃k:Nat,k≤11∧i= .int .i64 k∧∀j,j<k→bt S j≠c) (fun i=>(11-intOf i).toNat)
 case atStart=>exact⟨0,by omega,rfl,fun j H=>absurd H (Nat.not_lt_zero j)⟩
 case round=>
  obtain⟨k,N,rfl,o⟩:=hrel
  have q:Hid (∀j,j<k→bt S j≠c):=o
  clear o
  by_cases A:k<11
  ·by_cases n:bt S k=c
   ·have J:(bt S k==c)=true:=by simpa using n
    have D:Hid (ze1 c=true):=decide_eq_true (by rw[←n,←I.out];exact zkI k A)
    clear n
    go_wp2
    go_ret
    exact⟨zm D.out.symm,rfl⟩
   ·have J:(bt S k==c)=false:=by simpa using n
    have K:Hid (∀j,j<k+1→bt S j≠c):=fun j H=>by
     by_cases e:j=k
     ·rw[e];exact n
     ·exact q.out j (by omega)
    clear n
    go_wp2
    go_round
    case rel=>exact⟨k+1,by omega,by go_num,K.out⟩
    case measure=>simp[intOf];omega
  ·have D:Hid (ze1 c=false):=decide_eq_false (fun h=>by
    obtain⟨j,H,e⟩:=zkJ c h
    rw[I.out] at e
    exact q.out j (by omega) e)
   go_wp2
   go_ret
   exact⟨zm D.out.symm,rfl⟩
theorem ze2 (k:Nat):(0:Int)<10^k:=Int.pow_pos (by omega)
theorem zdw (k:Nat):(10:Int)^(k+1)=10^k*10:=Int.pow_succ _ _
theorem ze3 {a b:Nat} (h:a≤b):(10:Int)^a≤10^b:=by
 induction b with
 |zero=>
  obtain rfl:a=0:=by omega
  exact Int.le_refl _
 |succ b j=>
  by_cases e:a=b+1
  ·rw[e];exact Int.le_refl _
  ·have:=j (by omega)
   have:=ze2 b
   rw[zdw]
   omega
theorem zdR (n:Int) (k:Nat):n/10^k/10=n/10^(k+1):=by
 rw[zdw,Int.ediv_ediv_of_nonneg (Int.le_of_lt (ze2 k))]
theorem zdS (n:Int) (k:Nat) (h:0≤n):0≤n/10^k∧n/10^k≤n:=
 ⟨Int.ediv_nonneg h (Int.le_of_lt (ze2 k)),Int.ediv_le_self _ h⟩
def dc:Nat→Int→Nat
 |0,_=>1
 |f+1,q=>if q<10 then 1 else dc f (q/10)+1
theorem zkK (f:Nat) (q:Int) (o:0≤q) (h:q<10^(f+1)):1≤dc f q∧dc f q≤f+1∧q<10^dc f q∧(dc f q=1∨10^(dc f q-1)≤q):=by
 induction f generalizing q with
 |zero=>simpa [dc] using h
 |succ f n=>
  unfold dc
  by_cases j:q<10
  ·rw[if_pos j]
   exact⟨by omega,by omega,by simpa using j,.inl rfl⟩
  ·rw[if_neg j]
   obtain⟨a,b,c,d⟩:=n (q/10) (by omega) (by rw[zdw] at h;omega)
   refine⟨by omega,by omega,?_,.inr ?_⟩
   ·rw[zdw];omega
   ·rw[Nat.add_sub_cancel]
    rcases d with d|d
    ·rw[d]
     show (10:Int)^1≤q
     rw[show (10:Int)^1=10 from by decide]
     omega
    ·rw[show dc f (q/10)=(dc f (q/10)-1)+1 from by omega,zdw]
     omega
def dcn (m:Int):Nat:=dc 19 m
theorem zcX (m:Int) (j:0≤m) (h:m≤18446744073709551615):1≤dcn m∧dcn m≤20∧m<10^dcn m∧(dcn m=1∨10^(dcn m-1)≤m):=
 zkK 19 m j (by rw[show (10:Int)^(19+1)=100000000000000000000 by decide];omega)
theorem zkL (m:Int) (n:0≤m) (h:m≤18446744073709551615) (k:Nat):10≤m/10^k↔k+1<dcn m:=by
 obtain⟨a,b,c,d⟩:=zcX m n h
 rw[Int.le_ediv_iff_mul_le (ze2 k),Int.mul_comm,←zdw]
 constructor
 ·intro j
  rcases Nat.lt_or_ge (k+1) (dcn m) with e|e
  ·exact e
  ·have:=ze3 e
   omega
 ·intro j
  have:=ze3 (show k+1≤dcn m-1 by omega)
  omega
theorem zh8 (m:Int) (n:1≤m) (h:m≤18446744073709551615) (k:Nat):m/10^k≠0↔k<dcn m:=by
 obtain⟨a,b,c,d⟩:=zcX m (by omega) h
 have o:=zdS m k (by omega)
 have:m/10^k≠0↔1≤m/10^k:=by omega
 rw[this,Int.le_ediv_iff_mul_le (ze2 k),Int.one_mul]
 constructor
 ·intro j
  rcases Nat.lt_or_ge k (dcn m) with e|e
  ·exact e
  ·have:=ze3 e
   omega
 ·intro j
  have:=ze3 (show k≤dcn m-1 by omega)
  rcases d with d|d
  ·obtain rfl:k=0:=by omega
   simpa using n
  ·omega
def dgk (m:Int):Nat→List Int
 |0=>[]
 |k+1=>(48+m/10^k%10)::dgk m k
theorem zci (m:Int) (k:Nat):(dgk m k).length=k:=by
 induction k with
 |zero=>rfl
 |succ k j=>simp[dgk,j]
theorem zh9 (m:Int) (c k:Nat) (h:k<c):(dgk m c)[c-1-k]? =some (48+m/10^k%10):=by
 induction c with
 |zero=>omega
 |succ c j=>
  by_cases e:k=c
  ·subst e
   rw[show k+1-1-k=0 from by omega]
   rfl
  ·rw[show c+1-1-k=(c-1-k)+1 from by omega,dgk,List.getElem?_cons_succ]
   exact j (by omega)
def zfm (n:Int):Int:=if n<0 then-n else n
def zb9 (n:Int):List Int:=(if n<0 then [45] else [])++dgk (zfm n) (dcn (zfm n))
theorem zgh {n:Int} (h:n<0):zb9 n=45::dgk (-n) (dcn (-n)):=by simp[zb9,h,zfm]
theorem zgi {n:Int} (h:0≤n):zb9 n=dgk n (dcn n):=by
 have: ¬n<0:=by omega
 simp[zb9,this,zfm]
theorem zkM (L:List Int):zcs L L.length=L:=by simp[zcs]
theorem zkN (x:Int) (L:List Int):(zcs (x::L) L.length).set 0 x=x::L:=by
 simp[zcs]
theorem zkO (p:List Int) (m:Int) (c k:Nat) (h:k<c):(p++dgk m c)[(p++dgk m c).length-1-k]? =some (48+m/10^k%10):=by
 rw[List.length_append,zci,List.getElem?_append_right (by omega),show p.length+c-1-k-p.length=c-1-k from by omega]
 exact zh9 m c k h
theorem Tryz.infoByte:(Tryz.prog.info? 5).map (fun i=>(i.zero,i.size,i.bytes))=some (some (.int .u8 0),1,1):=by kernel_rfl
theorem zhA (m:Int) (w:World) (o:0≤m) (D:m≤18446744073709551615):
  Calls Tryz.prog 203 #[.int .u64 m] w fun e H=>e= .returned (.int .i64 (dcn m))∧H=w:=by
 have z:=zcX m o D
 have E:dcn m≤20:=z.2.1
 have A:1≤dcn m:=z.1
 clear z
 go_enter Tryz.func203,Tryz.ntmps203
 go_wp2
 go_loop [0,3] (fun a c=>∃k:Nat,k+1≤dcn m∧a= .int .u64 (m/10^k)∧c= .int .i64 ((k:Int)+1)) (fun a _=>(intOf a).toNat)
 case atStart=>exact⟨0,A,by simp,rfl⟩
 case round=>
  obtain⟨k,I,rfl,rfl⟩:=hrel
  have J:=zdS m k o
  have n:=zkL m o D k
  by_cases j:10≤m/10^k
  ·have q:=n.1 j
   clear n
   go_wp2
   go_round
   case rel=>exact⟨k+1,by omega,by rw[zdR],by go_num⟩
   case measure=>simp[intOf];omega
  ·have q: ¬(k+1<dcn m):=fun h=>j (n.2 h)
   clear n
   go_wp2
   go_ret
   exact⟨zdM (by omega),rfl⟩
theorem zkP (n:Int) (w:World) (O:0≤n) (h1:n≤9223372036854775807):
  Calls Tryz.prog 187 #[.int .i64 n] w fun e A=>e= .returned (.string (strOfNums (dgk n (dcn n))))∧Below w.heap.size w A:=by
 obtain⟨V,Y,J,H,M⟩:=info_parts Tryz.infoByte
 have I:=zcX n O (by omega)
 have U:dcn n≤20:=I.2.1
 have Z:1≤dcn n:=I.1
 clear I
 go_enter Tryz.func187,Tryz.ntmps187
 go_wp2_with (first|(go_at_call 203;refine (zhA _ _ (by omega) (by omega)).mono ?_;rintro e A ⟨rfl,rfl⟩)|(at_make;refine wpList_make_full _ rfl _ _ 44 rfl A.heap.size 5 V (.int .u8 0) 1 Tryz.underlying44 Y J H _ _ _ _ (dcn n) rfl rfl (by omega) (by omega) ?b2 ?b3 ?b4 ?_))
 case b2=>rw[M];omega
 case b3=>unfold maxLen;omega
 case b4=>exact Nat.le_refl _
 intro w1 q z
 have D:=(Below.refl A.heap.size A).grown z (Nat.le_refl _) (by intro k N;cases N)
 rw[toList_madeCells_one] at q
 clear z
 go_wp2
 go_loopw [3,7,21] (fun r _ i wr=>∃k:Nat,k≤dcn n∧i= .int .i64 k∧r= .int .u64 (n/10^k)∧zbj wr A.heap.size 5 (.slice (some ⟨A.heap.size,0,none⟩) (dcn n) (dcn n)) (dcn n) (zcs (dgk n (dcn n)) k)∧Below A.heap.size A wr) (fun _ _ i _=>dcn n-(intOf i).toNat)
 case atStart=>exact⟨0,by omega,rfl,by simp,by unfold zbj;rw[zhw,zci,List.map_replicate];exact q,D⟩
 case round=>
  obtain⟨k,N,rfl,rfl,j,o⟩:=hrel
  clear q D
  have hb:=zdS n k O
  by_cases E:k<dcn n
  ·obtain⟨v,hv⟩:=zfY j (dcn n-1-k) (by omega)
   have hf:=zfZ j (dcn n-1-k)
   have Q:=zfX j (dcn n-1-k) (48+n/10^k%10)
   have K:=zhx (dgk n (dcn n)) k (48+n/10^k%10) (by rw[zci];exact E) (by rw[zci];exact zh9 n _ k E)
   rw[zci] at K
   rw[K] at Q
   clear K j
   go_wp2
   go_roundw
   case rel=>exact⟨k+1,by omega,by go_num,by rw[zdR],Q,o.setCell (Nat.le_refl _) _⟩
   case measure=>simp[intOf];omega
  ·have L:=zkM (dgk n (dcn n))
   rw[zci] at L
   rw[show k=dcn n from by omega,L] at j
   clear L
   have X:=zfV (P:=Tryz.prog) (src:=44) (dst:=9) Tryz.underlying44 Tryz.underlying5 Tryz.underlying9 j
   go_wp2
   go_ret
   exact⟨rfl,o⟩
theorem zkQ (m:Int) (j:0<m) (n:m≤9223372036854775808):IntKind.u64.wrap (-IntKind.u64.wrap (-m))=m:=by
 rw[IntKind.wrap_u64,IntKind.wrap_u64];omega
theorem zkR (m:Int) (w:World) (Z:0<m) (h1:m≤9223372036854775808):
  Calls Tryz.prog 187 #[.int .i64 (-m)] w fun e z=>e= .returned (.string (strOfNums (45::dgk m (dcn m))))∧Below w.heap.size w z:=by
 obtain⟨V,Y,L,H,O⟩:=info_parts Tryz.infoByte
 have I:=zcX m (by omega) (by omega)
 have U:dcn m≤20:=I.2.1
 have aa:1≤dcn m:=I.1
 clear I
 have hu:=zkQ m Z h1
 go_enter Tryz.func187,Tryz.ntmps187
 go_wp2_with (first|(go_at_call 203;refine (zhA _ _ (by omega) (by omega)).mono ?_;rintro e z ⟨rfl,rfl⟩)|(at_make;refine wpList_make_full _ rfl _ _ 44 rfl z.heap.size 5 V (.int .u8 0) 1 Tryz.underlying44 Y L H _ _ _ _ (dcn m+1) rfl rfl (by omega) (by omega) ?b2 ?b3 ?b4 ?_))
 case b2=>rw[O];omega
 case b3=>unfold maxLen;omega
 case b4=>exact Nat.le_refl _
 intro w1 o q
 have D:=(Below.refl z.heap.size z).grown q (Nat.le_refl _) (by intro k Q;cases Q)
 rw[toList_madeCells_one] at o
 clear q
 have A:(45::dgk m (dcn m)).length=dcn m+1:=by rw[List.length_cons,zci]
 have J:Hid ((45::dgk m (dcn m)).length=dcn m+1):=A
 clear A
 go_wp2
 go_loopw [3,7,21] (fun r _ i wr=>∃k:Nat,k≤dcn m∧i= .int .i64 k∧r= .int .u64 (m/10^k)∧zbj wr z.heap.size 5 (.slice (some ⟨z.heap.size,0,none⟩) (dcn m+1) (dcn m+1)) (dcn m+1) (zcs (45::dgk m (dcn m)) k)∧Below z.heap.size z wr) (fun _ _ i _=>dcn m-(intOf i).toNat)
 case atStart=>exact⟨0,by omega,rfl,by simp,by unfold zbj;rw[zhw,J.out,List.map_replicate];exact o,D⟩
 case round=>
  obtain⟨k,Q,rfl,rfl,j,n⟩:=hrel
  clear o D hu
  have hb:=zdS m k (by omega)
  by_cases K:k<dcn m
  ·obtain⟨v,hv⟩:=zfY j (dcn m-k) (by omega)
   have hf:=zfZ j (dcn m-k)
   have E:=zfX j (dcn m-k) (48+m/10^k%10)
   have M:=zhx (45::dgk m (dcn m)) k (48+m/10^k%10) (by rw[J.out];omega) (zkO [45] m (dcn m) k K)
   rw[J.out,show dcn m+1-1-k=dcn m-k from by omega] at M
   rw[M] at E
   clear M j
   go_wp2
   go_roundw
   case rel=>exact⟨k+1,by omega,by go_num,by rw[zdR],E,n.setCell (Nat.le_refl _) _⟩
   case measure=>simp[intOf];omega
  ·have N:=zkN 45 (dgk m (dcn m))
   rw[zci] at N
   rw[show k=dcn m from by omega] at j
   obtain⟨v,hv⟩:=zfY j 0 (by omega)
   have hf:=zfZ j 0
   have E:=zfX j 0 45
   rw[N] at E
   clear N j
   have X:=zfV (P:=Tryz.prog) (src:=44) (dst:=9) Tryz.underlying44 Tryz.underlying5 Tryz.underlying9 E
   go_wp2
   go_ret
   exact⟨rfl,n.setCell (Nat.le_refl _) _⟩
theorem zkS (n:Int) (w:World) (o: -9223372036854775808≤n∧n≤9223372036854775807):
  Calls Tryz.prog 187 #[.int .i64 n] w fun e j=>e= .returned (.string (strOfNums (zb9 n)))∧Below w.heap.size w j:=by
 by_cases h:0≤n
 ·rw[zgi h]
  exact zkP n w h o.2
 ·obtain⟨m,rfl⟩: ∃m,n= -m:=⟨-n,by omega⟩
  rw[zgh (by omega),Int.neg_neg]
  exact zkR m w (by omega) (by omega)
theorem neg_tmod (q:Int) (h:0≤q):(-q).tmod 10= -(q%10):=by rw[Int.neg_tmod,Int.tmod_eq_emod_of_nonneg h]
theorem neg_tdiv (q:Int) (h:0≤q):(-q).tdiv 10= -(q/10):=by rw[Int.neg_tdiv,Int.tdiv_eq_ediv_of_nonneg h]
theorem zkT (n:Int) (w:World) (X:0<n) (Y:n≤9223372036854775807):
  Calls Tryz.prog 163 #[.int .i64 n] w fun e Q=>e= .returned (.string (strOfNums (dgk n (dcn n))))∧Below w.heap.size w Q:=by
 have E:=zcX n (by omega) (by omega)
 have J:dcn n≤20:=E.2.1
 have M:1≤dcn n:=E.1
 have O:(n==0)=false:=by simp;omega
 have I: ¬n<0:=by omega
 clear E
 go_enter Tryz.func163,Tryz.ntmps163
 go_wp2
 go_loopw [0,3,5] (fun a o _ wr=>∃k:Nat,k≤dcn n∧a= .int .i64 (n/10^k)∧o= .string (strOfNums (dgk n k))∧Below w.heap.size w wr) (fun a _ _ _=>(intOf a).toNat)
 case atStart=>exact⟨0,by omega,by simp,rfl,Below.refl _ _⟩
 case round=>
  obtain⟨k,U,rfl,rfl,j⟩:=hrel
  have V:=zdS n k (by omega)
  have z:=zh8 n (by omega) (by omega) k
  have L:(strOfNums (dgk n k)).size≤20:=by rw[strOfNums_size,zci];omega
  by_cases q:n/10^k=0
  ·have A: ¬(k<dcn n):=fun h=>z.2 h q
   have D:(n/10^k !=0)=false:=by simpa using q
   clear z q
   go_wp2
   go_ret
   exact⟨za2 (by rw[show dcn n=k from by omega]),j⟩
  ·have A:=z.1 q
   have D:(n/10^k !=0)=true:=by simpa using q
   have N:0<n/10^k:=by omega
   clear z q
   have K:=fun (w:World) (x:Int)=>zfW (P:=Tryz.prog) (src:=44) (dst:=9) Tryz.underlying44 Tryz.underlying5 Tryz.underlying9 w x
   have H:=fun x=>strOfNums_size [x]
   go_wp2
   go_roundw
   case rel=>exact⟨k+1,by omega,by rw[zdR],by rw[zfi];rfl,j.alloc j.size _⟩
   case measure=>simp[intOf];omega
theorem zkU (m:Int) (w:World) (Y:0<m) (Z:m≤9223372036854775808):
  Calls Tryz.prog 163 #[.int .i64 (-m)] w fun e Q=>e= .returned (.string (strOfNums (45::dgk m (dcn m))))∧Below w.heap.size w Q:=by
 have z:=zcX m (by omega) (by omega)
 have J:dcn m≤20:=z.2.1
 have M:1≤dcn m:=z.1
 have O:(-m==0)=false:=by simp;omega
 clear z
 go_enter Tryz.func163,Tryz.ntmps163
 go_wp2
 go_loopw [0,3,5] (fun a o _ wr=>∃k:Nat,k≤dcn m∧a= .int .i64 (-(m/10^k))∧o= .string (strOfNums (dgk m k))∧Below w.heap.size w wr) (fun a _ _ _=>(-(intOf a)).toNat)
 case atStart=>exact⟨0,by omega,by simp,rfl,Below.refl _ _⟩
 case round=>
  obtain⟨k,U,rfl,rfl,j⟩:=hrel
  have I:=zdS m k (by omega)
  have q:=zh8 m (by omega) (by omega) k
  have L:(strOfNums (dgk m k)).size≤20:=by rw[strOfNums_size,zci];omega
  by_cases n:m/10^k=0
  ·have A: ¬(k<dcn m):=fun h=>q.2 h n
   have D:(-(m/10^k) !=0)=false:=by simpa using n
   have H:(strOfNums [45]).size=1:=strOfNums_size [45]
   clear q n
   go_wp2
   go_ret
   exact⟨za2 (by rw[show dcn m=k from by omega];exact zfi 45 _),j⟩
  ·have A:=q.1 n
   have D:(-(m/10^k) !=0)=true:=by simpa using n
   have N:0<m/10^k:=by omega
   clear q n
   have V:=neg_tmod (m/10^k) I.1
   have X:=neg_tdiv (m/10^k) I.1
   have K:=fun (w:World) (x:Int)=>zfW (P:=Tryz.prog) (src:=44) (dst:=9) Tryz.underlying44 Tryz.underlying5 Tryz.underlying9 w x
   have E:=fun x=>strOfNums_size [x]
   by_cases z:0<m/10^k%10
   ·go_wp2
    go_roundw
    case rel=>exact⟨k+1,by omega,by rw[zdR],by rw[zfi];rfl,j.alloc j.size _⟩
    case measure=>simp[intOf];omega
   ·go_wp2
    go_roundw
    case rel=>exact⟨k+1,by omega,by rw[zdR],by rw[zfi,show 48+ -(m/10^k%10)=48+m/10^k%10 from by omega];rfl,j.alloc j.size _⟩
    case measure=>simp[intOf];omega
theorem zgj (n:Int) (w:World) (z: -9223372036854775808≤n∧n≤9223372036854775807):
  Calls Tryz.prog 163 #[.int .i64 n] w fun e o=>e= .returned (.string (strOfNums (zb9 n)))∧Below w.heap.size w o:=by
 by_cases h:0<n
 ·rw[zgi (by omega)]
  exact zkT n w h z.2
 ·by_cases j:n=0
  ·subst j
   have q:Hid (zb9 0=[48]):=by show zb9 0=[48];decide
   go_enter Tryz.func163,Tryz.ntmps163
   go_wp2
   go_ret
   exact⟨za2 (by rw[q.out];rfl),Below.refl _ _⟩
  ·obtain⟨m,rfl⟩: ∃m,n= -m:=⟨-n,by omega⟩
   rw[zgh (by omega),Int.neg_neg]
   exact zkU m w (by omega) (by omega)
theorem zk (w:World) (o:Obj):(w.alloc o).heap.size=w.heap.size+1:=by show (w.heap.push _).size=_;simp
theorem zc {p:Prop} (h:p):Hid p:=h
structure Ex where
 kind:Int
 num:Int
 name:ByteArray
 field:ByteArray
 l:Int
 r:Int
structure Sm where
 kind:Int
 name:ByteArray
 expr:Int
structure Im where
 spec:ByteArray
 first:ByteArray
 loc:ByteArray
structure Ep where
 kind:Int
 name:ByteArray
 loc:ByteArray
 spec:ByteArray
structure Cx where
 ts:List Tk
 fin:Nat
 scr:Bool
structure PS where
 pos:Nat
 rq:List ByteArray
 im:List Im
 ep:List Ep
 st:List Sm
 ex:List Ex
 la:List Ep
abbrev PR:=Except Nat PS
abbrev sNone:ByteArray:={data:=#[]}
abbrev zah:ByteArray:={data:=#[105,109,112,111,114,116]}
abbrev zaf:ByteArray:={data:=#[101,120,112,111,114,116]}
abbrev sDefault:ByteArray:={data:=#[100,101,102,97,117,108,116]}
abbrev zC:ByteArray:={data:=#[108,101,116]}
abbrev zT:ByteArray:={data:=#[102,117,110,99,116,105,111,110]}
abbrev zdT:ByteArray:={data:=#[114,101,116,117,114,110]}
abbrev zar:ByteArray:={data:=#[112,114,105,110,116]}
abbrev za3:ByteArray:={data:=#[116,104,114,111,119]}
abbrev zbA:ByteArray:={data:=#[102,97,105,108]}
abbrev za7:ByteArray:={data:=#[117,110,100,101,102]}
abbrev sAs:ByteArray:={data:=#[97,115]}
abbrev zU:ByteArray:={data:=#[102,114,111,109]}
abbrev zbN:ByteArray:={data:=#[42,100,101,102,97,117,108,116]}
abbrev zn:ByteArray:={data:=#[40]}
abbrev za0:ByteArray:={data:=#[41]}
abbrev zw:ByteArray:={data:=#[42]}
abbrev zbU:ByteArray:={data:=#[43]}
abbrev zbw:ByteArray:={data:=#[44]}
abbrev zbb:ByteArray:={data:=#[45]}
abbrev cPoint:ByteArray:={data:=#[46]}
abbrev cSemi:ByteArray:={data:=#[59]}
abbrev cEq:ByteArray:={data:=#[61]}
abbrev zJ:ByteArray:={data:=#[123]}
abbrev zbm:ByteArray:={data:=#[125]}
def bd {α β:Type} (x:Except Nat α) (f:α→Except Nat β):Except Nat β:=
 match x with
 | .ok a=>f a
 | .error e=>.error e
theorem zz {α β:Type} (a:α) (f:α→Except Nat β):bd (.ok a) f=f a:=rfl
theorem zdU {α β:Type} (e:Nat) (f:α→Except Nat β):bd (.error e) f= .error e:=rfl
theorem zM {α β γ:Type} (x:Except Nat α) (f:α→Except Nat β) (g:β→Except Nat γ):bd (bd x f) g=bd x fun a=>bd (f a) g:=by cases x<;>rfl
theorem zab {α β:Type} {x:Except Nat α} {f g:α→Except Nat β} (h: ∀a,x= .ok a→f a=g a):bd x f=bd x g:=by
 cases x with
 |ok a=>exact h a rfl
 |error e=>rfl
theorem zf {α β:Type} {x:Except Nat α} {f:α→Except Nat β} {b:β} (h:bd x f= .ok b): ∃a,x= .ok a∧f a= .ok b:=by
 cases x with
 |ok a=>exact⟨a,rfl,h⟩
 |error e=>cases h
def ze (C:Cx) (i:Nat):Tk:=C.ts.getD i ⟨0,sNone,0,C.fin⟩
def zr (C:Cx) (i:Nat):Nat:=(ze C i).pos
def isT (C:Cx) (i:Nat) (k:Int) (x:ByteArray):Bool:=((ze C i).kind==k)&&((ze C i).text.toList==x.toList)
def adv (q:PS):PS:={q with pos:=q.pos+1}
def zd (C:Cx) (k:Int) (x:ByteArray) (q:PS):PR:=if isT C q.pos k x then .ok (adv q) else .error (zr C q.pos)
def zu (x:ByteArray) (scr:Bool):Bool:=
 x.toList==[105,109,112,111,114,116]||x.toList==[101,120,112,111,114,116]||x.toList==[100,101,102,97,117,108,116]||x.toList==[108,101,116]||x.toList==[102,117,110,99,116,105,111,110]||x.toList==[114,101,116,117,114,110]||x.toList==[112,114,105,110,116]||x.toList==[116,104,114,111,119]
  ||((x.toList==[102,97,105,108]||x.toList==[117,110,100,101,102])&&scr)
def zD (C:Cx) (i:Nat) (o:Bool):Bool:=((ze C i).kind==1)&&(!zu (ze C i).text C.scr||(o&&((ze C i).text.toList==[100,101,102,97,117,108,116])))
def zj (C:Cx) (o:Bool) (q:PS):Except Nat (PS×ByteArray):=if zD C q.pos o then .ok (adv q,(ze C q.pos).text) else .error (zr C q.pos)
def zaX (l:List ByteArray) (x:ByteArray):Bool:=l.any fun y=>y.toList==x.toList
def zH (C:Cx) (q:PS):Except Nat (PS×ByteArray):=
 if (ze C q.pos).kind==3 then
  if zaX q.rq (ze C q.pos).text then .ok (adv q,(ze C q.pos).text)
  else if 40≤q.rq.length then .error (zr C q.pos)
  else .ok ({adv q with rq:=q.rq++[(ze C q.pos).text]},(ze C q.pos).text)
 else .error (zr C q.pos)
def zak (C:Cx) (x:Im) (q:PS):PR:=if 40≤q.im.length then .error (zr C (q.pos-1)) else .ok {q with im:=q.im++[x]}
def zo (C:Cx) (x:Ep) (q:PS):PR:=
 if 40≤q.ep.length+q.la.length then .error (zr C (q.pos-1))
 else if x.loc.toList==[42,100,101,102,97,117,108,116] then .ok {q with la:=q.la++[x]} else .ok {q with ep:=q.ep++[x]}
def zV (C:Cx) (k:Int) (n:ByteArray) (q:PS):PR:=if 80≤q.st.length then .error (zr C (q.pos-1)) else .ok {q with st:=q.st++[⟨k,n,(q.ex.length:Int)-1⟩]}
def zN (C:Cx) (x:Ex) (q:PS):PR:=if 300≤q.ex.length then .error (zr C (q.pos-1)) else .ok {q with ex:=q.ex++[x]}
def zbc (C:Cx) (n:ByteArray) (q:PS):PR:=
 if isT C q.pos 4 zn then bd (bd (zd C 4 zn q) (zd C 4 za0)) (zN C ⟨3,0,n,sNone,0,0⟩) else zN C ⟨2,0,n,sNone,0,0⟩ q
def zbx (C:Cx) (n f:ByteArray) (q:PS):PR:=
 if isT C q.pos 4 zn then bd (bd (zd C 4 zn q) (zd C 4 za0)) (zN C ⟨5,0,n,f,0,0⟩) else zN C ⟨4,0,n,f,0,0⟩ q
abbrev NT:Type:=Option (Option (Option (Option Unit)))
abbrev NT.sum:NT:=none
abbrev NT.sumT:NT:=some none
abbrev NT.prod:NT:=some (some none)
abbrev NT.prodT:NT:=some (some (some none))
abbrev NT.part:NT:=some (some (some (some ())))
theorem NT.elim {motive:NT→Prop} (nt:NT) (sum:motive .sum) (sumT:motive .sumT) (prod:motive .prod) (prodT:motive .prodT) (part:motive .part):motive nt:=
 match nt with
 |none=>sum
 |some none=>sumT
 |some (some none)=>prod
 |some (some (some none))=>prodT
 |some (some (some (some ())))=>part
def zcY (C:Cx) (i:Nat):Int:=if isT C i 4 zbb then 7 else 6
def ev (C:Cx):Nat→NT→Nat→PS→PR
 |0,_,_,_=>.error 0
 |f+1,none,d,q=>bd (ev C f .prod d q) (ev C f .sumT d)
 |f+1,some none,d,q=>
  if isT C q.pos 4 zbU||isT C q.pos 4 zbb then
   bd (bd (ev C f .prod d (adv q)) fun q'=>zN C ⟨zcY C q.pos,0,sNone,sNone,(q.ex.length:Int)-1,(q'.ex.length:Int)-1⟩ q') (ev C f .sumT d)
  else .ok q
 |f+1,some (some none),d,q=>bd (ev C f .part d q) (ev C f .prodT d)
 |f+1,some (some (some none)),d,q=>
  if isT C q.pos 4 zw then
   bd (bd (ev C f .part d (adv q)) fun q'=>zN C ⟨8,0,sNone,sNone,(q.ex.length:Int)-1,(q'.ex.length:Int)-1⟩ q') (ev C f .prodT d)
  else .ok q
 |f+1,some (some (some (some ()))),d,q=>
  if (ze C q.pos).kind==2 then zN C ⟨1,(ze C q.pos).num,sNone,sNone,0,0⟩ (adv q)
  else if isT C q.pos 4 zn then
   if 20≤d then .error (zr C q.pos) else bd (ev C f .sum (d+1) (adv q)) (zd C 4 za0)
  else if C.scr&&isT C q.pos 1 za7 then zbc C za7 (adv q)
  else bd (zj C false q) fun x=>if isT C x.1.pos 4 cPoint then bd (zj C true (adv x.1)) fun y=>zbx C x.2 y.2 y.1 else zbc C x.2 x.1
def nd (C:Cx) (nt:NT) (q:PS):Nat:=
 5*(C.ts.length-q.pos)+match nt with
  | .sum=>3
  | .prod=>2
  |_=>1
def pE (C:Cx) (nt:NT) (d:Nat) (q:PS):PR:=ev C (nd C nt q) nt d q
theorem zdl {C:Cx} {i:Nat} (h:C.ts.length≤i):ze C i=⟨0,sNone,0,C.fin⟩:=by simp[ze,List.getD,List.getElem?_eq_none h]
theorem za1 {C:Cx} {i:Nat} {k:Int} {x:ByteArray} (h:isT C i k x=true) (j:k≠0):i<C.ts.length:=by
 rcases Nat.lt_or_ge i C.ts.length with g|g
 ·exact g
 ·simp only[isT,zdl g,Bool.and_eq_true,beq_iff_eq] at h
  exact absurd h.1.symm j
theorem zfn {C:Cx} {i:Nat} {k:Int} (h:((ze C i).kind==k)=true) (j:k≠0):i<C.ts.length:=by
 rcases Nat.lt_or_ge i C.ts.length with g|g
 ·exact g
 ·simp only[zdl g,beq_iff_eq] at h
  exact absurd h.symm j
theorem ze4 {C:Cx} {i:Nat} {o:Bool} (h:zD C i o=true):i<C.ts.length:=by
 simp only[zD,Bool.and_eq_true] at h
 exact zfn h.1 (by decide)
theorem zb4 {C:Cx} {k:Int} {x:ByteArray} {q q':PS} (h:zd C k x q= .ok q'):q'=adv q∧isT C q.pos k x=true:=by
 unfold zd at h
 split at h
 ·next g=>exact⟨by cases h;rfl,g⟩
 ·cases h
theorem zbd {C:Cx} {o:Bool} {q:PS} {y:PS×ByteArray} (h:zj C o q= .ok y):y=(adv q,(ze C q.pos).text)∧zD C q.pos o=true:=by
 unfold zj at h
 split at h
 ·next g=>exact⟨by cases h;rfl,g⟩
 ·cases h
theorem zb5 {C:Cx} {x:Ex} {q q':PS} (h:zN C x q= .ok q'):q'={q with ex:=q.ex++[x]}∧q.ex.length<300:=by
 unfold zN at h
 split at h
 ·cases h
 ·cases h
  exact⟨rfl,by omega⟩
theorem zx (q:PS):(adv q).pos=q.pos+1:=rfl
theorem zhB {C:Cx} {n:ByteArray} {q q':PS} (h:zbc C n q= .ok q'):q.pos≤q'.pos:=by
 unfold zbc at h
 split at h
 ·obtain⟨a,z,o⟩:=zf h
  obtain⟨b,A,j⟩:=zf z
  obtain⟨rfl,_⟩:=zb4 A
  obtain⟨rfl,_⟩:=zb4 j
  obtain⟨rfl,_⟩:=zb5 o
  show q.pos≤q.pos+1+1
  omega
 ·obtain⟨rfl,_⟩:=zb5 h
  exact Nat.le_refl _
theorem zkV {C:Cx} {n f:ByteArray} {q q':PS} (h:zbx C n f q= .ok q'):q.pos≤q'.pos:=by
 unfold zbx at h
 split at h
 ·obtain⟨a,z,o⟩:=zf h
  obtain⟨b,A,j⟩:=zf z
  obtain⟨rfl,_⟩:=zb4 A
  obtain⟨rfl,_⟩:=zb4 j
  obtain⟨rfl,_⟩:=zb5 o
  show q.pos≤q.pos+1+1
  omega
 ·obtain⟨rfl,_⟩:=zb5 h
  exact Nat.le_refl _
theorem ze5 {C:Cx} (f:Nat): ∀(H:NT) (d:Nat) (q q':PS),ev C f H d q= .ok q'→q.pos≤q'.pos:=by
 induction f with
 |zero=>intro H d q q' h;cases H using NT.elim<;>cases h
 |succ f o=>
  intro H d q q' h
  cases H using NT.elim with
  |sum=>
   rw[ev] at h
   obtain⟨a,n,j⟩:=zf h
   exact Nat.le_trans (o _ _ _ _ n) (o _ _ _ _ j)
  |prod=>
   rw[ev] at h
   obtain⟨a,n,j⟩:=zf h
   exact Nat.le_trans (o _ _ _ _ n) (o _ _ _ _ j)
  |sumT=>
   rw[ev] at h
   split at h
   ·obtain⟨a,n,j⟩:=zf h
    obtain⟨b,A,E⟩:=zf n
    obtain⟨rfl,_⟩:=zb5 E
    have D:=o _ _ _ _ A
    have I:=o _ _ _ _ j
    rw[zx] at D
    exact Nat.le_trans (by omega:q.pos≤b.pos) I
   ·cases h
    exact Nat.le_refl _
  |prodT=>
   rw[ev] at h
   split at h
   ·obtain⟨a,n,j⟩:=zf h
    obtain⟨b,A,E⟩:=zf n
    obtain⟨rfl,_⟩:=zb5 E
    have D:=o _ _ _ _ A
    have I:=o _ _ _ _ j
    rw[zx] at D
    exact Nat.le_trans (by omega:q.pos≤b.pos) I
   ·cases h
    exact Nat.le_refl _
  |part=>
   rw[ev] at h
   split at h
   ·obtain⟨rfl,_⟩:=zb5 h
    show q.pos≤q.pos+1
    omega
   ·split at h
    ·split at h
     ·cases h
     ·obtain⟨a,n,j⟩:=zf h
      obtain⟨rfl,_⟩:=zb4 j
      have D:=o _ _ _ _ n
      rw[zx] at D ⊢
      omega
    ·split at h
     ·have:=zhB h
      rw[zx] at this
      omega
     ·obtain⟨y,n,j⟩:=zf h
      obtain⟨rfl,_⟩:=zbd n
      simp only at j
      split at j
      ·obtain⟨z,A,E⟩:=zf j
       obtain⟨rfl,_⟩:=zbd A
       have:=zkV E
       simp only[zx] at this
       omega
      ·have:=zhB j
       rw[zx] at this
       omega
theorem zkW {C:Cx} (f:Nat): ∀(g:Nat) (n:NT) (d:Nat) (q:PS),nd C n q≤f→nd C n q≤g→ev C f n d q=ev C g n d q:=by
 induction f with
 |zero=>intro g n d q h;unfold nd at h;cases n using NT.elim<;>simp at h
 |succ f j=>
  intro g n d q E z
  obtain⟨g,rfl⟩: ∃J,g=J+1:=by
   match g with
   |0=>unfold nd at z;cases n using NT.elim<;>simp at z
   |g+1=>exact⟨g,rfl⟩
  cases n using NT.elim with
  |sum=>
   simp only[nd] at E z
   rw[ev,ev,j g .prod d q (by simp only[nd];omega) (by simp only[nd];omega)]
   refine zab fun a o=>?_
   have:=ze5 _ _ _ _ _ o
   exact j g .sumT d a (by simp only[nd];omega) (by simp only[nd];omega)
  |prod=>
   simp only[nd] at E z
   rw[ev,ev,j g .part d q (by simp only[nd];omega) (by simp only[nd];omega)]
   refine zab fun a o=>?_
   have:=ze5 _ _ _ _ _ o
   exact j g .prodT d a (by simp only[nd];omega) (by simp only[nd];omega)
  |sumT=>
   simp only[nd] at E z
   rw[ev,ev]
   split
   ·next A=>
    have D:q.pos<C.ts.length:=by
     rw[Bool.or_eq_true] at A
     exact A.elim (fun k=>za1 k (by decide)) fun k=>za1 k (by decide)
    rw[j g .prod d (adv q) (by simp only[nd,zx];omega) (by simp only[nd,zx];omega)]
    refine zab fun a o=>?_
    obtain⟨b,H,I⟩:=zf o
    obtain⟨rfl,_⟩:=zb5 I
    have:=ze5 _ _ _ _ _ H
    rw[zx] at this
    exact j g .sumT d _ (by simp only[nd];omega) (by simp only[nd];omega)
   ·rfl
  |prodT=>
   simp only[nd] at E z
   rw[ev,ev]
   split
   ·next A=>
    have D:q.pos<C.ts.length:=za1 A (by decide)
    rw[j g .part d (adv q) (by simp only[nd,zx];omega) (by simp only[nd,zx];omega)]
    refine zab fun a o=>?_
    obtain⟨b,H,I⟩:=zf o
    obtain⟨rfl,_⟩:=zb5 I
    have:=ze5 _ _ _ _ _ H
    rw[zx] at this
    exact j g .prodT d _ (by simp only[nd];omega) (by simp only[nd];omega)
   ·rfl
  |part=>
   simp only[nd] at E z
   rw[ev,ev]
   split
   ·rfl
   ·split
    ·next A=>
     have D:q.pos<C.ts.length:=za1 A (by decide)
     split
     ·rfl
     ·rw[j g .sum (d+1) (adv q) (by simp only[nd,zx];omega) (by simp only[nd,zx];omega)]
    ·rfl
theorem zcF {C:Cx} {f d:Nat} {j:NT} {q:PS} (h:nd C j q≤f):ev C f j d q=pE C j d q:=zkW f _ j d q h (Nat.le_refl _)
theorem zaY {C:Cx} {j:NT} {d:Nat} {q q':PS} (h:pE C j d q= .ok q'):q.pos≤q'.pos:=ze5 _ _ _ _ _ h
theorem ze6 {C:Cx} {j:NT} {d:Nat} {q:PS}:pE C j d q=ev C (nd C j q+1) j d q:=(zcF (Nat.le_succ _)).symm
theorem zhC (C:Cx) (d:Nat) (q:PS):pE C .sum d q=bd (pE C .prod d q) (pE C .sumT d):=by
 rw[ze6,ev,zcF (by simp only[nd];omega)]
 refine zab fun a j=>?_
 have:=zaY j
 exact zcF (by simp only[nd];omega)
theorem zhD (C:Cx) (d:Nat) (q:PS):pE C .prod d q=bd (pE C .part d q) (pE C .prodT d):=by
 rw[ze6,ev,zcF (by simp only[nd];omega)]
 refine zab fun a j=>?_
 have:=zaY j
 exact zcF (by simp only[nd];omega)
theorem ze7 (C:Cx) (d:Nat) (q:PS):pE C .sumT d q=
  if isT C q.pos 4 zbU||isT C q.pos 4 zbb then
   bd (bd (pE C .prod d (adv q)) fun q'=>zN C ⟨zcY C q.pos,0,sNone,sNone,(q.ex.length:Int)-1,(q'.ex.length:Int)-1⟩ q') (pE C .sumT d)
  else .ok q:=by
 rw[ze6,ev]
 split
 ·next j=>
  have z:q.pos<C.ts.length:=by
   rw[Bool.or_eq_true] at j
   exact j.elim (fun k=>za1 k (by decide)) fun k=>za1 k (by decide)
  rw[zcF (by simp only[nd,zx];omega)]
  refine zab fun a o=>?_
  obtain⟨b,n,A⟩:=zf o
  obtain⟨rfl,_⟩:=zb5 A
  have:=zaY n
  rw[zx] at this
  exact zcF (by simp only[nd];omega)
 ·rfl
theorem zfo (C:Cx) (d:Nat) (q:PS):pE C .prodT d q=
  if isT C q.pos 4 zw then
   bd (bd (pE C .part d (adv q)) fun q'=>zN C ⟨8,0,sNone,sNone,(q.ex.length:Int)-1,(q'.ex.length:Int)-1⟩ q') (pE C .prodT d)
  else .ok q:=by
 rw[ze6,ev]
 split
 ·next j=>
  have z:q.pos<C.ts.length:=za1 j (by decide)
  rw[zcF (by simp only[nd,zx];omega)]
  refine zab fun a o=>?_
  obtain⟨b,n,A⟩:=zf o
  obtain⟨rfl,_⟩:=zb5 A
  have:=zaY n
  rw[zx] at this
  exact zcF (by simp only[nd];omega)
 ·rfl
theorem zb6 (C:Cx) (d:Nat) (q:PS):pE C .part d q=
  if (ze C q.pos).kind==2 then zN C ⟨1,(ze C q.pos).num,sNone,sNone,0,0⟩ (adv q)
  else if isT C q.pos 4 zn then
   if 20≤d then .error (zr C q.pos) else bd (pE C .sum (d+1) (adv q)) (zd C 4 za0)
  else if C.scr&&isT C q.pos 1 za7 then zbc C za7 (adv q)
  else bd (zj C false q) fun x=>if isT C x.1.pos 4 cPoint then bd (zj C true (adv x.1)) fun y=>zbx C x.2 y.2 y.1 else zbc C x.2 x.1:=by
 rw[ze6,ev]
 split
 ·rfl
 ·split
  ·next n=>
   have j:q.pos<C.ts.length:=za1 n (by decide)
   split
   ·rfl
   ·rw[zcF (by simp only[nd,zx];omega)]
  ·rfl
structure Md where
 rq:List ByteArray
 im:List Im
 ep:List Ep
 st:List Sm
 ex:List Ex
def zdx (q:PS):Md:=⟨q.rq,q.im,q.ep++q.la,q.st,q.ex⟩
def zO (k:Int):Bool:=k==6||k==7
def zW (k:Int):Bool:=k==6||k==7||k==8
def zg:Ex:=⟨0,0,sNone,sNone,0,0⟩
abbrev cParens:ByteArray:={data:=#[40,41]}
abbrev tPlus:ByteArray:={data:=#[32,43,32]}
abbrev tMinus:ByteArray:={data:=#[32,45,32]}
abbrev tStar:ByteArray:={data:=#[32,42,32]}
def zE (b:Bool) (t:ByteArray):ByteArray:=if b then zn++t++za0 else t
def prE (ex:List Ex):Nat→Nat→ByteArray
 |0,_=>sNone
 |f+1,i=>
  let x:=ex.getD i zg
  if x.kind==1 then strOfNums (zb9 x.num)
  else if x.kind==2 then x.name
  else if x.kind==3 then x.name++cParens
  else if x.kind==4 then x.name++cPoint++x.field
  else if x.kind==5 then x.name++cPoint++x.field++cParens
  else if x.kind==6 then prE ex f x.l.toNat++tPlus++zE (zO (ex.getD x.r.toNat zg).kind) (prE ex f x.r.toNat)
  else if x.kind==7 then prE ex f x.l.toNat++tMinus++zE (zO (ex.getD x.r.toNat zg).kind) (prE ex f x.r.toNat)
  else if x.kind==8 then zE (zO (ex.getD x.l.toNat zg).kind) (prE ex f x.l.toNat)++tStar++zE (zW (ex.getD x.r.toNat zg).kind) (prE ex f x.r.toNat)
  else sNone
def prX (ex:List Ex) (i:Nat):ByteArray:=prE ex (i+1) i
def zbn (ex:List Ex):Prop:=∀(i:Nat) (x:Ex),ex[i]? =some x→zW x.kind=true→0≤x.l∧x.l<(i:Int)∧0≤x.r∧x.r<(i:Int)
theorem zby {k:Int} (h:(k==6)=true∨(k==7)=true∨(k==8)=true):zW k=true:=by
 unfold zW
 rcases h with h|h|h<;>simp[h]
theorem zfp {ex:List Ex} (h:zbn ex) {i:Nat} (j:zW (ex.getD i zg).kind=true):0≤(ex.getD i zg).l∧(ex.getD i zg).l<(i:Int)∧0≤(ex.getD i zg).r∧(ex.getD i zg).r<(i:Int):=by
 by_cases n:i<ex.length
 ·have e:ex.getD i zg=ex[i]:=by simp[List.getD,List.getElem?_eq_getElem n]
  rw[e] at j ⊢
  exact h i _ (List.getElem?_eq_getElem n) j
 ·have e:ex.getD i zg=zg:=by simp[List.getD,List.getElem?_eq_none (by omega:ex.length≤i)]
  rw[e] at j
  exact absurd j (by decide)
theorem zhE {ex:List Ex} (h:zbn ex) (f:Nat): ∀(g i:Nat),i<f→i<g→prE ex f i=prE ex g i:=by
 induction f with
 |zero=>intro g i H;omega
 |succ f A=>
  intro g i J I
  obtain⟨g,rfl⟩: ∃E,g=E+1:=⟨g-1,by omega⟩
  rw[prE,prE]
  have D:=fun n=>zfp h (i:=i) n
  generalize ex.getD i zg=x at D ⊢
  have j: ∀n:zW x.kind=true,prE ex f x.l.toNat=prE ex g x.l.toNat∧prE ex f x.r.toNat=prE ex g x.r.toNat:=fun n=>by
   have:=D n
   exact⟨A g _ (by omega) (by omega),A g _ (by omega) (by omega)⟩
  by_cases q:(x.kind==6)=true
  ·rw[(j (zby (.inl q))).1,(j (zby (.inl q))).2]
  ·by_cases o:(x.kind==7)=true
   ·rw[(j (zby (.inr (.inl o)))).1,(j (zby (.inr (.inl o)))).2]
   ·by_cases z:(x.kind==8)=true
    ·rw[(j (zby (.inr (.inr z)))).1,(j (zby (.inr (.inr z)))).2]
    ·simp only[q,o,z,Bool.false_eq_true,↓reduceIte]
theorem zgk {ex:List Ex} (h:zbn ex) (i:Nat):prX ex i=
  if (ex.getD i zg).kind==1 then strOfNums (zb9 (ex.getD i zg).num)
  else if (ex.getD i zg).kind==2 then (ex.getD i zg).name
  else if (ex.getD i zg).kind==3 then (ex.getD i zg).name++cParens
  else if (ex.getD i zg).kind==4 then (ex.getD i zg).name++cPoint++(ex.getD i zg).field
  else if (ex.getD i zg).kind==5 then (ex.getD i zg).name++cPoint++(ex.getD i zg).field++cParens
  else if (ex.getD i zg).kind==6 then prX ex (ex.getD i zg).l.toNat++tPlus++zE (zO (ex.getD (ex.getD i zg).r.toNat zg).kind) (prX ex (ex.getD i zg).r.toNat)
  else if (ex.getD i zg).kind==7 then prX ex (ex.getD i zg).l.toNat++tMinus++zE (zO (ex.getD (ex.getD i zg).r.toNat zg).kind) (prX ex (ex.getD i zg).r.toNat)
  else if (ex.getD i zg).kind==8 then zE (zO (ex.getD (ex.getD i zg).l.toNat zg).kind) (prX ex (ex.getD i zg).l.toNat)++tStar++zE (zW (ex.getD (ex.getD i zg).r.toNat zg).kind) (prX ex (ex.getD i zg).r.toNat)
  else sNone:=by
 rw[prX,prE]
 have A:=fun n=>zfp h (i:=i) n
 generalize ex.getD i zg=x at A ⊢
 have j: ∀n:zW x.kind=true,prE ex i x.l.toNat=prX ex x.l.toNat∧prE ex i x.r.toNat=prX ex x.r.toNat:=fun n=>by
  have:=A n
  exact⟨zhE h _ _ _ (by omega) (by omega),zhE h _ _ _ (by omega) (by omega)⟩
 by_cases q:(x.kind==6)=true
 ·rw[(j (zby (.inl q))).1,(j (zby (.inl q))).2]
 ·by_cases o:(x.kind==7)=true
  ·rw[(j (zby (.inr (.inl o)))).1,(j (zby (.inr (.inl o)))).2]
  ·by_cases z:(x.kind==8)=true
   ·rw[(j (zby (.inr (.inr z)))).1,(j (zby (.inr (.inr z)))).2]
   ·simp only[q,o,z,Bool.false_eq_true,↓reduceIte]
def zam (ex:List Ex) (k:Int):Nat:=(ex.map fun x=>if zW x.kind then (if x.l==k then 1 else 0)+(if x.r==k then 1 else 0) else 0).sum
def zaG (st:List Sm) (k:Int):Nat:=(st.map fun s=>if s.expr==k then 1 else 0).sum
structure Tree (m:Md):Prop where
 ahead:zbn m.ex
 stm: ∀s∈m.st,0≤s.expr∧s.expr<(m.ex.length:Int)
 once: ∀k,k<m.ex.length→zam m.ex (k:Int)+zaG m.st (k:Int)=1
def sm (k:Nat) (f:Nat→Nat):Nat:=((List.range k).map f).sum
theorem zkX (f:Nat→Nat):sm 0 f=0:=rfl
theorem zdm (k:Nat) (f:Nat→Nat):sm (k+1) f=sm k f+f k:=by
 unfold sm
 rw[List.range_succ,List.map_append,List.sum_append]
 simp
theorem zgl (k:Nat) (f g:Nat→Nat):sm k (fun j=>f j+g j)=sm k f+sm k g:=by
 induction k with
 |zero=>rfl
 |succ k n=>rw[zdm,zdm,zdm,n];omega
theorem zdy {k:Nat} {f g:Nat→Nat} (h: ∀j,j<k→f j=g j):sm k f=sm k g:=by
 induction k with
 |zero=>rfl
 |succ k n=>rw[zdm,zdm,n fun j o=>h j (by omega),h k (by omega)]
theorem zgm (k:Nat):sm k (fun _=>0)=0:=by
 induction k with
 |zero=>rfl
 |succ k j=>rw[zdm,j]
theorem zgn (f:Nat→Nat) (k:Nat) (l:Int) (z:0≤l) (h:l<(k:Int)):sm k (fun j=>(if l==(j:Int) then 1 else 0)*f j)=f l.toNat:=by
 induction k with
 |zero=>omega
 |succ k o=>
  rw[zdm]
  by_cases e:l=(k:Int)
  ·have n:sm k (fun j=>(if l==(j:Int) then 1 else 0)*f j)=0:=(zdy (g:=fun _=>0) fun j q=>by rw[if_neg (by rw[beq_iff_eq];omega)];omega).trans (zgm k)
   rw[n,if_pos (by rw[beq_iff_eq];exact e),show l.toNat=k from by omega]
   omega
  ·rw[o (by omega),if_neg (by rw[beq_iff_eq];exact e)]
   omega
def u1 (x:Ex) (k:Int):Nat:=if zW x.kind then (if x.l==k then 1 else 0)+(if x.r==k then 1 else 0) else 0
theorem zhF {ex:List Ex} {i:Nat} (j:i<ex.length) (k:Int):zam (ex.drop i) k=u1 ex[i] k+zam (ex.drop (i+1)) k:=by
 rw[List.drop_eq_getElem_cons j,zam,List.map_cons,List.sum_cons]
 rfl
theorem zkY {ex:List Ex} {i:Nat} (j:ex.length≤i) (k:Int):zam (ex.drop i) k=0:=by rw[List.drop_eq_nil_of_le j];rfl
theorem zkZ {ex:List Ex} (h:zbn ex) (k:Nat) (z:k<ex.length): ∀d j,j+d=k+1→zam (ex.drop j) (k:Int)=zam (ex.drop (k+1)) (k:Int):=by
 intro d
 induction d with
 |zero=>intro j o;rw[show j=k+1 from by omega]
 |succ d q=>
  intro j o
  rw[zhF (by omega),q (j+1) (by omega)]
  have:u1 ex[j] (k:Int)=0:=by
   unfold u1
   split
   ·next n=>
    have:=h j _ (List.getElem?_eq_getElem (by omega)) n
    rw[if_neg (by rw[beq_iff_eq];omega),if_neg (by rw[beq_iff_eq];omega)]
   ·rfl
  omega
def wt (ex:List Ex) (i:Nat):Nat:=(prX ex i).size
def cost (x:Ex):Nat:=x.name.size+x.field.size+40
theorem zfq (b:Bool) (t:ByteArray):(zE b t).size≤t.size+2:=by
 unfold zE
 split
 ·rw[ByteArray.size_append,ByteArray.size_append]
  show 1+t.size+1≤t.size+2
  omega
 ·omega
theorem zgo (n:Int) (o: -9223372036854775808≤n) (j:n≤9223372036854775807):(strOfNums (zb9 n)).size≤21:=by
 rw[strOfNums_size]
 by_cases h:n<0
 ·rw[zgh h,List.length_cons,zci]
  have:=(zcX (-n) (by omega) (by omega)).2.1
  omega
 ·rw[zgi (by omega),zci]
  have:=(zcX n (by omega) (by omega)).2.1
  omega
theorem zla {ex:List Ex} (h:zbn ex) (i:Nat) (n: -9223372036854775808≤(ex.getD i zg).num∧(ex.getD i zg).num≤9223372036854775807):
  wt ex i≤cost (ex.getD i zg)+if zW (ex.getD i zg).kind then wt ex (ex.getD i zg).l.toNat+wt ex (ex.getD i zg).r.toNat else 0:=by
 unfold wt
 rw[zgk h]
 generalize ex.getD i zg=x at n ⊢
 unfold cost
 by_cases z:(x.kind==1)=true
 ·rw[if_pos z]
  have:=zgo x.num n.1 n.2
  omega
 ·rw[if_neg z]
  by_cases H:(x.kind==2)=true
  ·rw[if_pos H];omega
  ·rw[if_neg H]
   by_cases D:(x.kind==3)=true
   ·rw[if_pos D,ByteArray.size_append]
    have:cParens.size=2:=rfl
    omega
   ·rw[if_neg D]
    by_cases E:(x.kind==4)=true
    ·rw[if_pos E,ByteArray.size_append,ByteArray.size_append]
     have:cPoint.size=1:=rfl
     omega
    ·rw[if_neg E]
     by_cases A:(x.kind==5)=true
     ·rw[if_pos A,ByteArray.size_append,ByteArray.size_append,ByteArray.size_append]
      have:cPoint.size=1:=rfl
      have:cParens.size=2:=rfl
      omega
     ·rw[if_neg A]
      by_cases o:(x.kind==6)=true
      ·rw[if_pos o,if_pos (zby (.inl o)),ByteArray.size_append,ByteArray.size_append]
       have:=zfq (zO (ex.getD x.r.toNat zg).kind) (prX ex x.r.toNat)
       have:tPlus.size=3:=rfl
       omega
      ·rw[if_neg o]
       by_cases j:(x.kind==7)=true
       ·rw[if_pos j,if_pos (zby (.inr (.inl j))),ByteArray.size_append,ByteArray.size_append]
        have:=zfq (zO (ex.getD x.r.toNat zg).kind) (prX ex x.r.toNat)
        have:tMinus.size=3:=rfl
        omega
       ·rw[if_neg j]
        by_cases q:(x.kind==8)=true
        ·rw[if_pos q,if_pos (zby (.inr (.inr q))),ByteArray.size_append,ByteArray.size_append]
         have:=zfq (zO (ex.getD x.l.toNat zg).kind) (prX ex x.l.toNat)
         have:=zfq (zW (ex.getD x.r.toNat zg).kind) (prX ex x.r.toNat)
         have:tStar.size=3:=rfl
         omega
        ·rw[if_neg q]
         show 0≤_
         omega
def zbB (ex:List Ex):Prop:=∀x∈ex,-9223372036854775808≤x.num∧x.num≤9223372036854775807
theorem zdz {ex:List Ex} {i:Nat} (j:i<ex.length):ex.getD i zg=ex[i]:=by simp[List.getD,List.getElem?_eq_getElem j]
theorem zlb (f:Nat→Nat) (n:Nat): ∀o:List Sm,(∀s∈o,0≤s.expr∧s.expr<(n:Int))→(o.map fun s=>f s.expr.toNat).sum=sm n (fun j=>zaG o (j:Int)*f j):=by
 intro o
 induction o with
 |nil=>intro _;show 0=_;rw[←zgm n];exact zdy fun j _=>by simp[zaG]
 |cons s o A=>
  intro h
  rw[List.map_cons,List.sum_cons,A fun x z=>h x (List.mem_cons_of_mem _ z)]
  have q:=h s List.mem_cons_self
  rw[←zgn f n s.expr q.1 q.2,←zgl]
  refine zdy fun j _=>?_
  simp only[zaG,List.map_cons,List.sum_cons]
  rw[Nat.add_mul]
theorem zlc {m:Md} (t:Tree m) (z:zbB m.ex): ∀d k,k+d=m.ex.length→
  (m.st.map fun s=>wt m.ex s.expr.toNat).sum≤sm k (fun j=>(zaG m.st (j:Int)+zam (m.ex.drop k) (j:Int))*wt m.ex j)+((m.ex.drop k).map cost).sum:=by
 intro d
 induction d with
 |zero=>
  intro k E
  have:k=m.ex.length:=by omega
  subst this
  rw[zlb _ _ _ t.stm]
  refine Nat.le_trans (Nat.le_of_eq ?_) (Nat.le_add_right _ _)
  refine zdy fun j _=>?_
  rw[zkY (Nat.le_refl _),Nat.add_zero]
 |succ d D=>
  intro k E
  have n:k<m.ex.length:=by omega
  refine Nat.le_trans (D (k+1) (by omega)) ?_
  have J:zaG m.st (k:Int)+zam (m.ex.drop (k+1)) (k:Int)=1:=by
   have:=t.once k n
   rw[←zkZ t.ahead k n (k+1) 0 (by omega),List.drop_zero]
   omega
  rw[zdm,J,Nat.one_mul,List.drop_eq_getElem_cons n,List.map_cons,List.sum_cons]
  have H:=zla t.ahead k (by rw[zdz n];exact z _ (List.getElem_mem n))
  rw[zdz n] at H
  have A:sm k (fun j=>(zaG m.st (j:Int)+zam (m.ex.drop k) (j:Int))*wt m.ex j)=sm k (fun j=>(zaG m.st (j:Int)+zam (m.ex.drop (k+1)) (j:Int))*wt m.ex j)+if zW m.ex[k].kind then wt m.ex m.ex[k].l.toNat+wt m.ex m.ex[k].r.toNat else 0:=by
   have e: ∀j:Nat,(zaG m.st (j:Int)+zam (m.ex.drop k) (j:Int))*wt m.ex j=(zaG m.st (j:Int)+zam (m.ex.drop (k+1)) (j:Int))*wt m.ex j+u1 m.ex[k] (j:Int)*wt m.ex j:=fun j=>by
    rw[zhF n,←Nat.add_mul]
    congr 1
    omega
   rw[zdy fun j _=>e j,zgl]
   congr 1
   split
   ·next q=>
    have o:=t.ahead k _ (List.getElem?_eq_getElem n) q
    rw[←zgn (wt m.ex) k _ o.1 o.2.1,←zgn (wt m.ex) k _ o.2.2.1 o.2.2.2,←zgl]
    refine zdy fun j _=>?_
    rw[u1,if_pos q,Nat.add_mul]
   ·next q=>
    rw[←zgm k]
    refine zdy fun j _=>?_
    rw[u1,if_neg q,Nat.zero_mul]
  have I:zam (m.ex[k]::m.ex.drop (k+1))=zam (m.ex.drop k):=by rw[←List.drop_eq_getElem_cons n]
  rw[I,A]
  omega
theorem zld {m:Md} (t:Tree m) (j:zbB m.ex):(m.st.map fun s=>wt m.ex s.expr.toNat).sum≤(m.ex.map cost).sum:=by
 have:=zlc t j m.ex.length 0 (by omega)
 rw[zkX,Nat.zero_add,List.drop_zero] at this
 exact this
def zcG (S:Src) (g N:Nat) (w:World) (e:Ending) (w':World):Prop:=∃x q',e= .returned (.string x)∧x.size≤N∧zR 147 S w' g q'∧w.grownBy w' (some g)
theorem ze8 (w:World) (o:Obj) (r:Option Nat):w.grownBy (w.alloc o) r:=⟨rfl,rfl,rfl,by rw[zk];omega,fun k j _=>heap_alloc_old w o j⟩
theorem ze9 {S:Src} {w:World} {g:Nat} {q:Nat×Int} (h:zR 147 S w g q) (o:Obj):zR 147 S (w.alloc o) g q:=zcC h ((Below.refl w.heap.size w).alloc (Nat.le_refl _) _) (zcB h)
theorem zbz (S:Src) (K:S.ok) (g:Nat) (q:Nat×Int) (N:Nat) (l:List ByteArray) (w:World) (z:zR 147 S w g q) (H:1≤l.length) (D:l.length≤1000) (J: ∀x∈l,x.size≤N):
  Calls Tryz.prog 111 #[.pointer (some ⟨g,0,none⟩),.slice (some ⟨w.heap.size,0,none⟩) l.length l.length] (w.alloc (.cells (l.map Value.string).toArray 9)) (zcG S g N w):=by
 have L:=zcB z
 refine (zge S K g q w.heap.size l.length N _ (ze9 z _) H D (by rw[zk];omega) (by omega) ?_).mono ?_
 ·intro j A
  rw[World.cell?_alloc_new]
  refine⟨l[j],?_,J _ (List.getElem_mem A)⟩
  simp[List.getElem?_eq_getElem A]
 ·rintro e M ⟨x,I,rfl,E,n,o⟩
  exact⟨x,I,rfl,E,n,zB (ze8 w _ _) o⟩
theorem zgp (S:Src) (Q:S.ok) (g:Nat) (V:Bool) (d N:Nat) (hd:d≤2) (hN:N≤100000) (ih:0<d→∀(q:Nat×Int) (w:World),zR 147 S w g q→Calls Tryz.prog 185 #[.pointer (some ⟨g,0,none⟩),.int .i64 ((d:Int)-1),.bool V] w (zcG S g N w))
  (q0:Nat×Int) (w0:World) (j:zR 147 S w0 g q0):Calls Tryz.prog 185 #[.pointer (some ⟨g,0,none⟩),.int .i64 (d:Int),.bool V] w0 (zcG S g (2*N+110) w0):=by
 have ae:=zc j
 have ai:Hid (w0.grownBy w0 (some g)):=⟨rfl,rfl,rfl,Nat.le_refl _,fun _ _ _=>rfl⟩
 have IH:=zc ih
 clear j ih
 go_enter Tryz.func185,Tryz.ntmps185
 go_wp2_with fail
 refine (zbz S Q g _ 100 [{data:=#[97]},{data:=#[98]},{data:=#[120]},{data:=#[102]},{data:=#[103]},{data:=#[110]},{data:=#[100]}] _ ae.out (by simp) (by simp) (by intro x K;simp only[List.mem_cons,List.not_mem_nil,or_false] at K;rcases K with rfl|rfl|rfl|rfl|rfl|rfl|rfl<;>decide)).mono ?_
 rintro e w1 ⟨x1,q1,rfl,z1,j,n⟩
 have af:=zc j
 have ag:=zc (zB ai.out n)
 clear j n
 go_wp2_with fail
 refine (zaD S Q g _ 9 _ af.out (by omega)).mono ?_
 rintro e w2 ⟨rfl,j,n⟩
 have L:=zaV S q1 9 (by omega)
 obtain⟨Y,hk⟩: ∃k:Nat,(bw S q1 9).1=k:=⟨(bw S q1 9).1.toNat,by omega⟩
 obtain⟨I,J⟩: ∃U,(bw S q1 9).2=U:=⟨_,rfl⟩
 rw[hk] at L ⊢
 rw[J] at j
 have A:=zc j
 have D:=zc (zB ag.out n)
 clear j n
 have aj:Y<9:=by omega
 clear L hk J
 have ac:True:=trivial
 clear ac
 rcases (show Y=0∨Y=1∨Y=2∨Y=3∨Y=4∨Y=5∨Y=6∨Y=7∨Y=8 by omega) with rfl|rfl|rfl|rfl|rfl|rfl|rfl|rfl|rfl
 ·go_wp2_with fail
  refine (zaD S Q g _ 9 _ A.out (by omega)).mono ?_
  rintro e w3 ⟨rfl,j,n⟩
  have L:=zaV S I 9 (by omega)
  obtain⟨k3,hk⟩: ∃k:Nat,(bw S I 9).1=k:=⟨(bw S I 9).1.toNat,by omega⟩
  obtain⟨M,J⟩: ∃U,(bw S I 9).2=U:=⟨_,rfl⟩
  rw[hk] at L ⊢
  rw[J] at j
  have z:=zc j
  have o:=zc (zB D.out n)
  clear j n
  have ah:k3<9:=by omega
  clear L hk J
  go_wp2_with fail
  refine (zgj (k3:Int) _ (by omega)).mono ?_
  rintro e w4 ⟨rfl,hb⟩
  have E:=zc (zcC z.out hb (zcB z.out))
  have H:=zc (zcV o.out hb o.out.size)
  have hz:=zgo (k3:Int) (by omega) (by omega)
  clear hb
  go_wp2
  go_ret
  exact⟨_,M,rfl,by omega,E.out,H.out⟩
 ·go_wp2_with fail
  refine (zaD S Q g _ 9 _ A.out (by omega)).mono ?_
  rintro e w3 ⟨rfl,j,n⟩
  have L:=zaV S I 9 (by omega)
  obtain⟨k3,hk⟩: ∃k:Nat,(bw S I 9).1=k:=⟨(bw S I 9).1.toNat,by omega⟩
  obtain⟨M,J⟩: ∃U,(bw S I 9).2=U:=⟨_,rfl⟩
  rw[hk] at L ⊢
  rw[J] at j
  have z:=zc j
  have o:=zc (zB D.out n)
  clear j n
  have ah:k3<9:=by omega
  clear L hk J
  go_wp2_with fail
  refine (zgj (k3:Int) _ (by omega)).mono ?_
  rintro e w4 ⟨rfl,hb⟩
  have E:=zc (zcC z.out hb (zcB z.out))
  have H:=zc (zcV o.out hb o.out.size)
  have hz:=zgo (k3:Int) (by omega) (by omega)
  clear hb
  go_wp2
  go_ret
  exact⟨_,M,rfl,by omega,E.out,H.out⟩
 ·go_wp2
  go_ret
  exact⟨_,I,rfl,by have Z:(({data:=#[32,40,32,41]}:ByteArray)).size=4:=rfl;simp only[ByteArray.size_append,Z];omega,A.out,D.out⟩
 ·go_wp2
  go_ret
  exact⟨_,I,rfl,by have Z:(({data:=#[110,32,46,32]}:ByteArray)).size=4:=rfl;simp only[ByteArray.size_append,Z];omega,A.out,D.out⟩
 ·go_wp2
  go_ret
  exact⟨_,I,rfl,by have Z:(({data:=#[110,32,46,32,102,32,40,32,41]}:ByteArray)).size=9:=rfl;omega,A.out,D.out⟩
 ·by_cases O:0<d
  ·go_wp2_with fail
   refine (IH.out O I _ A.out).mono ?_
   rintro e w3 ⟨x3,M,rfl,z3,j,n⟩
   have z:=zc j
   have o:=zc (zB D.out n)
   clear j n
   go_wp2_with fail
   refine (zbz S Q g _ 100 [{data:=#[43]},{data:=#[45]},{data:=#[42]}] _ z.out (by simp) (by simp) (by intro x K;simp only[List.mem_cons,List.not_mem_nil,or_false] at K;rcases K with rfl|rfl|rfl<;>decide)).mono ?_
   rintro e w4 ⟨x4,X,rfl,z4,j,n⟩
   have E:=zc j
   have H:=zc (zB o.out n)
   clear j n
   go_wp2_with fail
   refine (IH.out O X _ E.out).mono ?_
   rintro e w5 ⟨x5,q5,rfl,z5,j,n⟩
   have ab:=zc j
   have aa:=zc (zB H.out n)
   clear j n
   go_wp2
   go_ret
   exact⟨_,q5,rfl,by have Z:(({data:=#[32]}:ByteArray)).size=1:=rfl;simp only[ByteArray.size_append,Z];omega,ab.out,aa.out⟩
  ·have ad: ¬0<(d:Int):=by omega
   cases V with
   |false=>
    go_wp2
    go_ret
    exact⟨_,I,rfl,by omega,A.out,D.out⟩
   |true=>
    go_wp2_with fail
    refine (zcD S Q g _ 8 _ A.out (by omega)).mono ?_
    rintro e w3 ⟨rfl,j,n⟩
    obtain⟨M,J⟩: ∃U,(bw S I 8).2=U:=⟨_,rfl⟩
    rw[J] at j
    have z:=zc j
    have o:=zc (zB D.out n)
    clear j n J
    generalize ((bw S I 8).1==0)=b
    cases b with
    |false=>
     go_wp2
     go_ret
     exact⟨_,M,rfl,by omega,z.out,o.out⟩
    |true=>
     go_wp2_with fail
     refine (zbz S Q g _ 100 [{data:=#[117,110,100,101,102]},{data:=#[117,110,100,101,102,32,40,32,41]},{data:=#[97,36,49]},{data:=#[120,36]}] _ z.out (by simp) (by simp) (by intro x K;simp only[List.mem_cons,List.not_mem_nil,or_false] at K;rcases K with rfl|rfl|rfl|rfl<;>decide)).mono ?_
     rintro e w4 ⟨x4,X,rfl,z4,j,n⟩
     have E:=zc j
     have H:=zc (zB o.out n)
     clear j n
     go_wp2
     go_ret
     exact⟨_,X,rfl,by omega,E.out,H.out⟩
 ·by_cases O:0<d
  ·go_wp2_with fail
   refine (IH.out O I _ A.out).mono ?_
   rintro e w3 ⟨x3,M,rfl,z3,j,n⟩
   have z:=zc j
   have o:=zc (zB D.out n)
   clear j n
   go_wp2_with fail
   refine (zbz S Q g _ 100 [{data:=#[43]},{data:=#[45]},{data:=#[42]}] _ z.out (by simp) (by simp) (by intro x K;simp only[List.mem_cons,List.not_mem_nil,or_false] at K;rcases K with rfl|rfl|rfl<;>decide)).mono ?_
   rintro e w4 ⟨x4,X,rfl,z4,j,n⟩
   have E:=zc j
   have H:=zc (zB o.out n)
   clear j n
   go_wp2_with fail
   refine (IH.out O X _ E.out).mono ?_
   rintro e w5 ⟨x5,q5,rfl,z5,j,n⟩
   have ab:=zc j
   have aa:=zc (zB H.out n)
   clear j n
   go_wp2
   go_ret
   exact⟨_,q5,rfl,by have Z:(({data:=#[32]}:ByteArray)).size=1:=rfl;simp only[ByteArray.size_append,Z];omega,ab.out,aa.out⟩
  ·have ad: ¬0<(d:Int):=by omega
   cases V with
   |false=>
    go_wp2
    go_ret
    exact⟨_,I,rfl,by omega,A.out,D.out⟩
   |true=>
    go_wp2_with fail
    refine (zcD S Q g _ 8 _ A.out (by omega)).mono ?_
    rintro e w3 ⟨rfl,j,n⟩
    obtain⟨M,J⟩: ∃U,(bw S I 8).2=U:=⟨_,rfl⟩
    rw[J] at j
    have z:=zc j
    have o:=zc (zB D.out n)
    clear j n J
    generalize ((bw S I 8).1==0)=b
    cases b with
    |false=>
     go_wp2
     go_ret
     exact⟨_,M,rfl,by omega,z.out,o.out⟩
    |true=>
     go_wp2_with fail
     refine (zbz S Q g _ 100 [{data:=#[117,110,100,101,102]},{data:=#[117,110,100,101,102,32,40,32,41]},{data:=#[97,36,49]},{data:=#[120,36]}] _ z.out (by simp) (by simp) (by intro x K;simp only[List.mem_cons,List.not_mem_nil,or_false] at K;rcases K with rfl|rfl|rfl|rfl<;>decide)).mono ?_
     rintro e w4 ⟨x4,X,rfl,z4,j,n⟩
     have E:=zc j
     have H:=zc (zB o.out n)
     clear j n
     go_wp2
     go_ret
     exact⟨_,X,rfl,by omega,E.out,H.out⟩
 ·by_cases O:0<d
  ·go_wp2_with fail
   refine (IH.out O I _ A.out).mono ?_
   rintro e w3 ⟨x3,M,rfl,z3,j,n⟩
   have z:=zc j
   have o:=zc (zB D.out n)
   clear j n
   go_wp2
   go_ret
   exact⟨_,M,rfl,by have Z:(({data:=#[40,32]}:ByteArray)).size=2:=rfl;have y1:(({data:=#[32,41]}:ByteArray)).size=2:=rfl;simp only[ByteArray.size_append,Z,y1];omega,z.out,o.out⟩
  ·have ad: ¬0<(d:Int):=by omega
   cases V with
   |false=>
    go_wp2
    go_ret
    exact⟨_,I,rfl,by omega,A.out,D.out⟩
   |true=>
    go_wp2_with fail
    refine (zcD S Q g _ 8 _ A.out (by omega)).mono ?_
    rintro e w3 ⟨rfl,j,n⟩
    obtain⟨M,J⟩: ∃U,(bw S I 8).2=U:=⟨_,rfl⟩
    rw[J] at j
    have z:=zc j
    have o:=zc (zB D.out n)
    clear j n J
    generalize ((bw S I 8).1==0)=b
    cases b with
    |false=>
     go_wp2
     go_ret
     exact⟨_,M,rfl,by omega,z.out,o.out⟩
    |true=>
     go_wp2_with fail
     refine (zbz S Q g _ 100 [{data:=#[117,110,100,101,102]},{data:=#[117,110,100,101,102,32,40,32,41]},{data:=#[97,36,49]},{data:=#[120,36]}] _ z.out (by simp) (by simp) (by intro x K;simp only[List.mem_cons,List.not_mem_nil,or_false] at K;rcases K with rfl|rfl|rfl|rfl<;>decide)).mono ?_
     rintro e w4 ⟨x4,X,rfl,z4,j,n⟩
     have E:=zc j
     have H:=zc (zB o.out n)
     clear j n
     go_wp2
     go_ret
     exact⟨_,X,rfl,by omega,E.out,H.out⟩
 ·cases V with
  |false=>
   go_wp2
   go_ret
   exact⟨_,I,rfl,by omega,A.out,D.out⟩
  |true=>
   go_wp2_with fail
   refine (zcD S Q g _ 8 _ A.out (by omega)).mono ?_
   rintro e w3 ⟨rfl,j,n⟩
   obtain⟨M,J⟩: ∃U,(bw S I 8).2=U:=⟨_,rfl⟩
   rw[J] at j
   have z:=zc j
   have o:=zc (zB D.out n)
   clear j n J
   generalize ((bw S I 8).1==0)=b
   cases b with
   |false=>
    go_wp2
    go_ret
    exact⟨_,M,rfl,by omega,z.out,o.out⟩
   |true=>
    go_wp2_with fail
    refine (zbz S Q g _ 100 [{data:=#[117,110,100,101,102]},{data:=#[117,110,100,101,102,32,40,32,41]},{data:=#[97,36,49]},{data:=#[120,36]}] _ z.out (by simp) (by simp) (by intro x K;simp only[List.mem_cons,List.not_mem_nil,or_false] at K;rcases K with rfl|rfl|rfl|rfl<;>decide)).mono ?_
    rintro e w4 ⟨x4,X,rfl,z4,j,n⟩
    have E:=zc j
    have H:=zc (zB o.out n)
    clear j n
    go_wp2
    go_ret
    exact⟨_,X,rfl,by omega,E.out,H.out⟩
theorem zle (S:Src) (o:S.ok) (g:Nat) (j:Bool) (q:Nat×Int) (w:World) (n:zR 147 S w g q):Calls Tryz.prog 185 #[.pointer (some ⟨g,0,none⟩),.int .i64 2,.bool j] w (zcG S g 770 w):=by
 have z: ∀(q:Nat×Int) (w:World),zR 147 S w g q→Calls Tryz.prog 185 #[.pointer (some ⟨g,0,none⟩),.int .i64 0,.bool j] w (zcG S g 110 w):=fun q w n=>zgp S o g j 0 0 (by omega) (by omega) (fun h=>absurd h (Nat.lt_irrefl 0)) q w n
 have A: ∀(q:Nat×Int) (w:World),zR 147 S w g q→Calls Tryz.prog 185 #[.pointer (some ⟨g,0,none⟩),.int .i64 1,.bool j] w (zcG S g 330 w):=fun q w n=>zgp S o g j 1 110 (by omega) (by omega) (fun _=>z) q w n
 exact zgp S o g j 2 330 (by omega) (by omega) (fun _=>A) q w n
theorem zlf (S:Src) (M:S.ok) (g:Nat) (Q:Bool) (q0:Nat×Int) (w0:World) (z:zR 147 S w0 g q0):Calls Tryz.prog 156 #[.pointer (some ⟨g,0,none⟩),.bool Q] w0 (zcG S g 1500 w0):=by
 have aa:=zc z
 have ah:Hid (w0.grownBy w0 (some g)):=⟨rfl,rfl,rfl,Nat.le_refl _,fun _ _ _=>rfl⟩
 clear z
 go_enter Tryz.func156,Tryz.ntmps156
 go_wp2_with fail
 refine (zbz S M g _ 100 [{data:=#[97]},{data:=#[98]},{data:=#[120]},{data:=#[102]},{data:=#[103]}] _ aa.out (by simp) (by simp) (by intro x K;simp only[List.mem_cons,List.not_mem_nil,or_false] at K;rcases K with rfl|rfl|rfl|rfl|rfl<;>decide)).mono ?_
 rintro e w1 ⟨x1,q1,rfl,z1,z,E⟩
 have ad:=zc z
 have ag:=zc (zB ah.out E)
 clear z E
 go_wp2_with fail
 refine (zle S M g Q q1 _ ad.out).mono ?_
 rintro e w2 ⟨x2,q2,rfl,z2,z,E⟩
 have ab:=zc z
 have af:=zc (zB ag.out E)
 clear z E
 go_wp2_with fail
 refine (zbz S M g _ 100 [{data:=#[46,47,98]},{data:=#[46,47,99]},{data:=#[46,47,97]},{data:=#[120]},{data:=#[46,47,100]}] _ ab.out (by simp) (by simp) (by intro x K;simp only[List.mem_cons,List.not_mem_nil,or_false] at K;rcases K with rfl|rfl|rfl|rfl|rfl<;>decide)).mono ?_
 rintro e w3 ⟨x3,Z,rfl,z3,z,E⟩
 have ae:=zc z
 have ac:=zc (zB af.out E)
 clear z E
 go_wp2_with fail
 refine (zaD S M g _ 16 _ ae.out (by omega)).mono ?_
 rintro e w4 ⟨rfl,z,E⟩
 have Y:=zaV S Z 16 (by omega)
 obtain⟨H,hk⟩: ∃k:Nat,(bw S Z 16).1=k:=⟨(bw S Z 16).1.toNat,by omega⟩
 obtain⟨J,N⟩: ∃X,(bw S Z 16).2=X:=⟨_,rfl⟩
 rw[hk] at Y ⊢
 rw[N] at z
 have o:=zc z
 have q:=zc (zB ac.out E)
 clear z E
 have ai:H<16:=by omega
 clear Y hk N
 cases Q with
 |false=>
  rcases (show H=0∨H=1∨H=2∨H=3∨H=4∨H=5∨H=6∨H=7∨H=8∨H=9∨H=10∨H=11∨H=12∨H=13∨H=14∨H=15 by omega) with rfl|rfl|rfl|rfl|rfl|rfl|rfl|rfl|rfl|rfl|rfl|rfl|rfl|rfl|rfl|rfl
  ·go_wp2
   go_ret
   exact⟨_,J,rfl,by have j:(({data:=#[108,101,116,32]}:ByteArray)).size=4:=rfl;have n:(({data:=#[32,61,32]}:ByteArray)).size=3:=rfl;have I:(({data:=#[59]}:ByteArray)).size=1:=rfl;simp only[ByteArray.size_append,j,n,I];omega,o.out,q.out⟩
  ·go_wp2
   go_ret
   exact⟨_,J,rfl,by have j:(({data:=#[108,101,116,32]}:ByteArray)).size=4:=rfl;have n:(({data:=#[32,61,32]}:ByteArray)).size=3:=rfl;have I:(({data:=#[59]}:ByteArray)).size=1:=rfl;simp only[ByteArray.size_append,j,n,I];omega,o.out,q.out⟩
  ·go_wp2
   go_ret
   exact⟨_,J,rfl,by have j:(({data:=#[108,101,116,32]}:ByteArray)).size=4:=rfl;have n:(({data:=#[32,61,32]}:ByteArray)).size=3:=rfl;have I:(({data:=#[59]}:ByteArray)).size=1:=rfl;simp only[ByteArray.size_append,j,n,I];omega,o.out,q.out⟩
  ·go_wp2_with fail
   refine (zbz S M g _ 100 [{data:=#[102]},{data:=#[103]}] _ o.out (by simp) (by simp) (by intro x K;simp only[List.mem_cons,List.not_mem_nil,or_false] at K;rcases K with rfl|rfl<;>decide)).mono ?_
   rintro e O ⟨U,L,rfl,V,z,E⟩
   have D:=zc z
   have A:=zc (zB q.out E)
   clear z E
   go_wp2
   go_ret
   exact⟨_,L,rfl,by have j:(({data:=#[102,117,110,99,116,105,111,110,32]}:ByteArray)).size=9:=rfl;have n:(({data:=#[40,41,32,123,32,114,101,116,117,114,110,32]}:ByteArray)).size=12:=rfl;have I:(({data:=#[59,32,125]}:ByteArray)).size=3:=rfl;simp only[ByteArray.size_append,j,n,I];omega,D.out,A.out⟩
  ·go_wp2
   go_ret
   exact⟨_,J,rfl,by have j:(({data:=#[32,61,32]}:ByteArray)).size=3:=rfl;have n:(({data:=#[59]}:ByteArray)).size=1:=rfl;simp only[ByteArray.size_append,j,n];omega,o.out,q.out⟩
  ·go_wp2
   go_ret
   exact⟨_,J,rfl,by have j:(({data:=#[112,114,105,110,116,40]}:ByteArray)).size=6:=rfl;have n:(({data:=#[41,59]}:ByteArray)).size=2:=rfl;simp only[ByteArray.size_append,j,n];omega,o.out,q.out⟩
  ·go_wp2
   go_ret
   exact⟨_,J,rfl,by have j:(({data:=#[112,114,105,110,116,40]}:ByteArray)).size=6:=rfl;have n:(({data:=#[41,59]}:ByteArray)).size=2:=rfl;simp only[ByteArray.size_append,j,n];omega,o.out,q.out⟩
  ·go_wp2
   go_ret
   exact⟨_,J,rfl,by have j:(({data:=#[116,104,114,111,119,32]}:ByteArray)).size=6:=rfl;have n:(({data:=#[59]}:ByteArray)).size=1:=rfl;simp only[ByteArray.size_append,j,n];omega,o.out,q.out⟩
  ·go_wp2_with fail
   refine (zbz S M g _ 100 [{data:=#[]},{data:=#[32,97,115,32,120]},{data:=#[32,97,115,32,98,44,32,103]}] _ o.out (by simp) (by simp) (by intro x K;simp only[List.mem_cons,List.not_mem_nil,or_false] at K;rcases K with rfl|rfl|rfl<;>decide)).mono ?_
   rintro e O ⟨U,L,rfl,V,z,E⟩
   have D:=zc z
   have A:=zc (zB q.out E)
   clear z E
   go_wp2
   go_ret
   exact⟨_,L,rfl,by have j:(({data:=#[105,109,112,111,114,116,32,123,32]}:ByteArray)).size=9:=rfl;have n:(({data:=#[32,125,32,102,114,111,109,32,34]}:ByteArray)).size=9:=rfl;have I:(({data:=#[34,59]}:ByteArray)).size=2:=rfl;simp only[ByteArray.size_append,j,n,I];omega,D.out,A.out⟩
  ·go_wp2
   go_ret
   exact⟨_,J,rfl,by have j:(({data:=#[105,109,112,111,114,116,32,42,32,97,115,32,110,32,102,114,111,109,32,34]}:ByteArray)).size=20:=rfl;have n:(({data:=#[34,59]}:ByteArray)).size=2:=rfl;simp only[ByteArray.size_append,j,n];omega,o.out,q.out⟩
  ·go_wp2
   go_ret
   exact⟨_,J,rfl,by have j:(({data:=#[105,109,112,111,114,116,32,100,32,102,114,111,109,32,34]}:ByteArray)).size=15:=rfl;have n:(({data:=#[34,59]}:ByteArray)).size=2:=rfl;simp only[ByteArray.size_append,j,n];omega,o.out,q.out⟩
  ·go_wp2_with fail
   refine (zbz S M g _ 100 [{data:=#[]},{data:=#[32,97,115,32,121]},{data:=#[32,97,115,32,100,101,102,97,117,108,116]}] _ o.out (by simp) (by simp) (by intro x K;simp only[List.mem_cons,List.not_mem_nil,or_false] at K;rcases K with rfl|rfl|rfl<;>decide)).mono ?_
   rintro e O ⟨U,L,rfl,V,z,E⟩
   have D:=zc z
   have A:=zc (zB q.out E)
   clear z E
   go_wp2
   go_ret
   exact⟨_,L,rfl,by have j:(({data:=#[101,120,112,111,114,116,32,123,32]}:ByteArray)).size=9:=rfl;have n:(({data:=#[32,125,59]}:ByteArray)).size=3:=rfl;simp only[ByteArray.size_append,j,n];omega,D.out,A.out⟩
  ·go_wp2_with fail
   refine (zbz S M g _ 100 [{data:=#[]},{data:=#[32,97,115,32,121]},{data:=#[44,32,100,101,102,97,117,108,116]}] _ o.out (by simp) (by simp) (by intro x K;simp only[List.mem_cons,List.not_mem_nil,or_false] at K;rcases K with rfl|rfl|rfl<;>decide)).mono ?_
   rintro e O ⟨U,L,rfl,V,z,E⟩
   have D:=zc z
   have A:=zc (zB q.out E)
   clear z E
   go_wp2
   go_ret
   exact⟨_,L,rfl,by have j:(({data:=#[101,120,112,111,114,116,32,123,32]}:ByteArray)).size=9:=rfl;have n:(({data:=#[32,125,32,102,114,111,109,32,34]}:ByteArray)).size=9:=rfl;have I:(({data:=#[34,59]}:ByteArray)).size=2:=rfl;simp only[ByteArray.size_append,j,n,I];omega,D.out,A.out⟩
  ·go_wp2
   go_ret
   exact⟨_,J,rfl,by have j:(({data:=#[101,120,112,111,114,116,32,42,32,102,114,111,109,32,34]}:ByteArray)).size=15:=rfl;have n:(({data:=#[34,59]}:ByteArray)).size=2:=rfl;simp only[ByteArray.size_append,j,n];omega,o.out,q.out⟩
  ·go_wp2
   go_ret
   exact⟨_,J,rfl,by have j:(({data:=#[101,120,112,111,114,116,32,100,101,102,97,117,108,116,32]}:ByteArray)).size=15:=rfl;have n:(({data:=#[59]}:ByteArray)).size=1:=rfl;simp only[ByteArray.size_append,j,n];omega,o.out,q.out⟩
  ·go_wp2_with fail
   refine (zbz S M g _ 900 [({data:=#[108,101,116,32]}:ByteArray)++x1++({data:=#[32,61,32]}:ByteArray)++x2++({data:=#[59]}:ByteArray),({data:=#[102,117,110,99,116,105,111,110,32,102,40,41,32,123,32,114,101,116,117,114,110,32]}:ByteArray)++x2++({data:=#[59,32,125]}:ByteArray),({data:=#[108,101,116,32,122,32,61,32,49,59]}:ByteArray)] _ o.out (by simp) (by simp) (by intro x K;simp only[List.mem_cons,List.not_mem_nil,or_false] at K;have j:(({data:=#[108,101,116,32]}:ByteArray)).size=4:=rfl;have n:(({data:=#[32,61,32]}:ByteArray)).size=3:=rfl;have I:(({data:=#[59]}:ByteArray)).size=1:=rfl;have y3:(({data:=#[102,117,110,99,116,105,111,110,32,102,40,41,32,123,32,114,101,116,117,114,110,32]}:ByteArray)).size=22:=rfl;have y4:(({data:=#[59,32,125]}:ByteArray)).size=3:=rfl;have y5:(({data:=#[108,101,116,32,122,32,61,32,49,59]}:ByteArray)).size=10:=rfl;rcases K with rfl|rfl|rfl<;>simp only[ByteArray.size_append,j,n,I,y3,y4,y5]<;>omega)).mono ?_
   rintro e O ⟨U,L,rfl,V,z,E⟩
   have D:=zc z
   have A:=zc (zB q.out E)
   clear z E
   go_wp2
   go_ret
   exact⟨_,L,rfl,by have j:(({data:=#[101,120,112,111,114,116,32]}:ByteArray)).size=7:=rfl;simp only[ByteArray.size_append,j];omega,D.out,A.out⟩
 |true=>
  rcases (show H=0∨H=1∨H=2∨H=3∨H=4∨H=5∨H=6∨H=7∨H=8∨H=9∨H=10∨H=11∨H=12∨H=13∨H=14∨H=15 by omega) with rfl|rfl|rfl|rfl|rfl|rfl|rfl|rfl|rfl|rfl|rfl|rfl|rfl|rfl|rfl|rfl
  ·go_wp2
   go_ret
   exact⟨_,J,rfl,by have j:(({data:=#[108,101,116,32]}:ByteArray)).size=4:=rfl;have n:(({data:=#[32,61,32]}:ByteArray)).size=3:=rfl;have I:(({data:=#[59]}:ByteArray)).size=1:=rfl;simp only[ByteArray.size_append,j,n,I];omega,o.out,q.out⟩
  ·go_wp2
   go_ret
   exact⟨_,J,rfl,by have j:(({data:=#[108,101,116,32]}:ByteArray)).size=4:=rfl;have n:(({data:=#[32,61,32]}:ByteArray)).size=3:=rfl;have I:(({data:=#[59]}:ByteArray)).size=1:=rfl;simp only[ByteArray.size_append,j,n,I];omega,o.out,q.out⟩
  ·go_wp2
   go_ret
   exact⟨_,J,rfl,by have j:(({data:=#[108,101,116,32]}:ByteArray)).size=4:=rfl;have n:(({data:=#[32,61,32]}:ByteArray)).size=3:=rfl;have I:(({data:=#[59]}:ByteArray)).size=1:=rfl;simp only[ByteArray.size_append,j,n,I];omega,o.out,q.out⟩
  ·go_wp2_with fail
   refine (zbz S M g _ 100 [{data:=#[102]},{data:=#[103]}] _ o.out (by simp) (by simp) (by intro x K;simp only[List.mem_cons,List.not_mem_nil,or_false] at K;rcases K with rfl|rfl<;>decide)).mono ?_
   rintro e O ⟨U,L,rfl,V,z,E⟩
   have D:=zc z
   have A:=zc (zB q.out E)
   clear z E
   go_wp2
   go_ret
   exact⟨_,L,rfl,by have j:(({data:=#[102,117,110,99,116,105,111,110,32]}:ByteArray)).size=9:=rfl;have n:(({data:=#[40,41,32,123,32,114,101,116,117,114,110,32]}:ByteArray)).size=12:=rfl;have I:(({data:=#[59,32,125]}:ByteArray)).size=3:=rfl;simp only[ByteArray.size_append,j,n,I];omega,D.out,A.out⟩
  ·go_wp2
   go_ret
   exact⟨_,J,rfl,by have j:(({data:=#[32,61,32]}:ByteArray)).size=3:=rfl;have n:(({data:=#[59]}:ByteArray)).size=1:=rfl;simp only[ByteArray.size_append,j,n];omega,o.out,q.out⟩
  ·go_wp2
   go_ret
   exact⟨_,J,rfl,by have j:(({data:=#[112,114,105,110,116,40]}:ByteArray)).size=6:=rfl;have n:(({data:=#[41,59]}:ByteArray)).size=2:=rfl;simp only[ByteArray.size_append,j,n];omega,o.out,q.out⟩
  ·go_wp2
   go_ret
   exact⟨_,J,rfl,by have j:(({data:=#[112,114,105,110,116,40]}:ByteArray)).size=6:=rfl;have n:(({data:=#[41,59]}:ByteArray)).size=2:=rfl;simp only[ByteArray.size_append,j,n];omega,o.out,q.out⟩
  ·go_wp2_with fail
   refine (zcD S M g _ 2 _ o.out (by omega)).mono ?_
   rintro e O ⟨rfl,z,E⟩
   obtain⟨L,N⟩: ∃X,(bw S J 2).2=X:=⟨_,rfl⟩
   rw[N] at z
   have D:=zc z
   have A:=zc (zB q.out E)
   clear z E N
   generalize ((bw S J 2).1==0)=b
   cases b with
   |false=>
    go_wp2
    go_ret
    exact⟨_,L,rfl,by have j:(({data:=#[116,104,114,111,119,32]}:ByteArray)).size=6:=rfl;have n:(({data:=#[59]}:ByteArray)).size=1:=rfl;simp only[ByteArray.size_append,j,n];omega,D.out,A.out⟩
   |true=>
    go_wp2
    go_ret
    exact⟨_,L,rfl,by have j:(({data:=#[102,97,105,108,32]}:ByteArray)).size=5:=rfl;have n:(({data:=#[59]}:ByteArray)).size=1:=rfl;simp only[ByteArray.size_append,j,n];omega,D.out,A.out⟩
  ·go_wp2
   go_ret
   exact⟨_,J,rfl,by have j:(({data:=#[108,101,116,32]}:ByteArray)).size=4:=rfl;have n:(({data:=#[32,61,32]}:ByteArray)).size=3:=rfl;have I:(({data:=#[59]}:ByteArray)).size=1:=rfl;simp only[ByteArray.size_append,j,n,I];omega,o.out,q.out⟩
  ·go_wp2
   go_ret
   exact⟨_,J,rfl,by have j:(({data:=#[108,101,116,32]}:ByteArray)).size=4:=rfl;have n:(({data:=#[32,61,32]}:ByteArray)).size=3:=rfl;have I:(({data:=#[59]}:ByteArray)).size=1:=rfl;simp only[ByteArray.size_append,j,n,I];omega,o.out,q.out⟩
  ·go_wp2
   go_ret
   exact⟨_,J,rfl,by have j:(({data:=#[108,101,116,32]}:ByteArray)).size=4:=rfl;have n:(({data:=#[32,61,32]}:ByteArray)).size=3:=rfl;have I:(({data:=#[59]}:ByteArray)).size=1:=rfl;simp only[ByteArray.size_append,j,n,I];omega,o.out,q.out⟩
  ·go_wp2_with fail
   refine (zbz S M g _ 100 [{data:=#[102]},{data:=#[103]}] _ o.out (by simp) (by simp) (by intro x K;simp only[List.mem_cons,List.not_mem_nil,or_false] at K;rcases K with rfl|rfl<;>decide)).mono ?_
   rintro e O ⟨U,L,rfl,V,z,E⟩
   have D:=zc z
   have A:=zc (zB q.out E)
   clear z E
   go_wp2
   go_ret
   exact⟨_,L,rfl,by have j:(({data:=#[102,117,110,99,116,105,111,110,32]}:ByteArray)).size=9:=rfl;have n:(({data:=#[40,41,32,123,32,114,101,116,117,114,110,32]}:ByteArray)).size=12:=rfl;have I:(({data:=#[59,32,125]}:ByteArray)).size=3:=rfl;simp only[ByteArray.size_append,j,n,I];omega,D.out,A.out⟩
  ·go_wp2
   go_ret
   exact⟨_,J,rfl,by have j:(({data:=#[32,61,32]}:ByteArray)).size=3:=rfl;have n:(({data:=#[59]}:ByteArray)).size=1:=rfl;simp only[ByteArray.size_append,j,n];omega,o.out,q.out⟩
  ·go_wp2
   go_ret
   exact⟨_,J,rfl,by have j:(({data:=#[112,114,105,110,116,40]}:ByteArray)).size=6:=rfl;have n:(({data:=#[41,59]}:ByteArray)).size=2:=rfl;simp only[ByteArray.size_append,j,n];omega,o.out,q.out⟩
  ·go_wp2
   go_ret
   exact⟨_,J,rfl,by have j:(({data:=#[112,114,105,110,116,40]}:ByteArray)).size=6:=rfl;have n:(({data:=#[41,59]}:ByteArray)).size=2:=rfl;simp only[ByteArray.size_append,j,n];omega,o.out,q.out⟩
  ·go_wp2_with fail
   refine (zcD S M g _ 2 _ o.out (by omega)).mono ?_
   rintro e O ⟨rfl,z,E⟩
   obtain⟨L,N⟩: ∃X,(bw S J 2).2=X:=⟨_,rfl⟩
   rw[N] at z
   have D:=zc z
   have A:=zc (zB q.out E)
   clear z E N
   generalize ((bw S J 2).1==0)=b
   cases b with
   |false=>
    go_wp2
    go_ret
    exact⟨_,L,rfl,by have j:(({data:=#[116,104,114,111,119,32]}:ByteArray)).size=6:=rfl;have n:(({data:=#[59]}:ByteArray)).size=1:=rfl;simp only[ByteArray.size_append,j,n];omega,D.out,A.out⟩
   |true=>
    go_wp2
    go_ret
    exact⟨_,L,rfl,by have j:(({data:=#[102,97,105,108,32]}:ByteArray)).size=5:=rfl;have n:(({data:=#[59]}:ByteArray)).size=1:=rfl;simp only[ByteArray.size_append,j,n];omega,D.out,A.out⟩
def zd0 (S:Src) (y:Int) (T:List Int×(Nat×Int)) (acc:List Int) (n:Nat) (q:Nat×Int):Prop:=acc++(zcA S y n q).1=T.1∧(zcA S y n q).2=T.2
theorem zgq {S:Src} {y:Int} {T:List Int×(Nat×Int)} {acc:List Int} {n:Nat} {q:Nat×Int} (h:zd0 S y T acc (n+1) q):zd0 S y T (acc++[chr y (cb S q).1]) n (cb S q).2:=by
 obtain⟨a,b⟩:=h
 rw[zcA] at a b
 exact⟨by rw[List.append_assoc];exact a,b⟩
theorem zlg {S:Src} {y:Int} {T:List Int×(Nat×Int)} {acc:List Int} {q:Nat×Int} (h:zd0 S y T acc 0 q):acc=T.1∧q=T.2:=by
 obtain⟨a,b⟩:=h
 rw[zcA] at a b
 exact⟨by simpa using a,b⟩
theorem zlh (S:Src) (hS:S.ok) (g:Nat) (q:Nat×Int) (j:Int) (w:World) (hc:zR 147 S w g q) (ao:0≤j) (an:j≤1000):
  Calls Tryz.prog 186 #[.pointer (some ⟨g,0,none⟩),.int .i64 j] w fun e w'=>e= .returned (.string (strOfNums (tx S q j).1))∧zR 147 S w' g (tx S q j).2∧w.grownBy w' (some g):=by
 obtain⟨i0,hi,Z,V,ab⟩:=info_parts Tryz.infoByte
 have H:=zcB hc
 have ai:=zaV S (bw S q 4).2 (j+1) (by omega)
 have HT:Hid (tx S q j=zcA S (bw S q 4).1 (bw S (bw S q 4).2 (j+1)).1.toNat (bw S (bw S q 4).2 (j+1)).2):=rfl
 go_enter Tryz.func186,Tryz.ntmps186
 go_wp2_with fail
 refine (zaD S hS g q 4 _ (zcC hc ((Below.refl w.heap.size w).alloc (Nat.le_refl _) _) H) (by omega)).mono ?_
 rintro e w1 ⟨rfl,ac,Y⟩
 go_wp2_with fail
 refine (zaD S hS g _ (j+1) _ ac (by omega)).mono ?_
 rintro e w2 ⟨rfl,af,X⟩
 have U:zbj w2 w.heap.size 5 (.slice (some ⟨w.heap.size,0,none⟩) 0 0) 0 []:=by
  have h0:zbj (w.alloc (.cells #[] 5)) w.heap.size 5 (.slice (some ⟨w.heap.size,0,none⟩) 0 0) 0 []:=World.ownsRow_lit w #[] 0 (Nat.le_refl _) (by unfold maxLen;omega) rfl
  exact zez (zez h0 Y H) X H
 have ad:w.grownBy w2 (some g):=zB (zB (zcV (World.grownBy.refl w _) ((Below.refl w.heap.size w).alloc (Nat.le_refl _) (.cells #[] 5)) (Nat.le_refl _)) Y) X
 obtain⟨m0,L⟩: ∃m:Nat,(bw S (bw S q 4).2 (j+1)).1=m:=⟨(bw S (bw S q 4).2 (j+1)).1.toNat,by omega⟩
 rw[L]
 have ag:Hid (zd0 S (bw S q 4).1 (tx S q j) [] m0 (bw S (bw S q 4).2 (j+1)).2):=by
  show zd0 ..
  have e:=HT.out
  rw[L,Int.toNat_natCast] at e
  rw[e]
  exact⟨rfl,rfl⟩
 have ak:m0≤1000:=by omega
 clear L HT ai hc ac Y X
 go_wp2
 go_loopw [5,7,8] (fun v n _ wr=>∃(k:Nat) (acc:List Int) (m:Nat) (p:Nat×Int),n= .int .i64 m∧k+m≤1000∧zd0 S (bw S q 4).1 (tx S q j) acc m p∧zbj wr w.heap.size 5 v k acc∧zR 147 S wr g p∧w.grownBy wr (some g)) (fun _ n _ _=>(intOf n).toNat)
 case atStart=>exact⟨0,[],m0,_,rfl,by omega,ag.out,U,af,ad⟩
 case round=>
  obtain⟨k,acc,m,p,rfl,aa,ae,D,Q,A⟩:=hrel
  have K:=ae
  clear ae U af ad
  match m,aa,K with
  |0,aa,K=>
   obtain⟨e1,e2⟩:=zlg K
   have aj:Hid (acc=(tx S q j).1):=e1
   have ah:Hid (p=(tx S q j).2):=e2
   clear e1 e2 K
   rw[aj.out] at D
   have am:=zfV (P:=Tryz.prog) (src:=44) (dst:=9) Tryz.underlying44 Tryz.underlying5 Tryz.underlying9 D
   go_wp2
   go_ret
   exact⟨rfl,by rw[←ah.out];exact Q,A⟩
  |m+1,aa,HAT0=>
   have K:Hid (zd0 S (bw S q 4).1 (tx S q j) acc (m+1) p):=HAT0
   clear HAT0
   have al:=zdt S p
   by_cases O:(bw S q 4).1=1
   ·have q1:((bw S q 4).1==1)=true:=by simpa using O
    have q2:((bw S q 4).1==2)=false:=by rw[O];rfl
    have N:Hid (chr (bw S q 4).1 (cb S p).1=(cb S p).1%2):=by show chr _ _=_;rw[chr,if_pos O]
    clear O
    go_wp2_with (first|(go_at_call 155;refine (zcW S hS g p _ Q).mono ?_;rintro e w3 ⟨rfl,M,o⟩;have E:=zez D o H;have I:=Nat.le_trans A.size o.size)|(at_builtin;refine zga w3 rfl _ _ 44 rfl w.heap.size 5 i0 Tryz.underlying44 hi Z V ab _ k acc (by rfl) E ((cb S p).1%2) (by rfl) (by omega) I ?_))
    intro v' w4 z J
    go_wp2
    go_roundw
    case rel=>exact⟨k+1,acc++[(cb S p).1%2],m,(cb S p).2,by go_num,by omega,by rw[←N.out];exact zgq K.out,z,zcC M J H,zcV (zB A o) J (Nat.le_refl _)⟩
    case measure=>simp[intOf]
   ·have q1:((bw S q 4).1==1)=false:=by simpa using O
    by_cases h2:(bw S q 4).1=2
    ·have q2:((bw S q 4).1==2)=true:=by simpa using h2
     have N:Hid (chr (bw S q 4).1 (cb S p).1=97+(cb S p).1%4):=by show chr _ _=_;rw[chr,if_neg O,if_pos h2]
     clear O h2
     go_wp2_with (first|(go_at_call 155;refine (zcW S hS g p _ Q).mono ?_;rintro e w3 ⟨rfl,M,o⟩;have E:=zez D o H;have I:=Nat.le_trans A.size o.size)|(at_builtin;refine zga w3 rfl _ _ 44 rfl w.heap.size 5 i0 Tryz.underlying44 hi Z V ab _ k acc (by rfl) E (97+(cb S p).1%4) (by rfl) (by omega) I ?_))
     intro v' w4 z J
     go_wp2
     go_roundw
     case rel=>exact⟨k+1,acc++[97+(cb S p).1%4],m,(cb S p).2,by go_num,by omega,by rw[←N.out];exact zgq K.out,z,zcC M J H,zcV (zB A o) J (Nat.le_refl _)⟩
     case measure=>simp[intOf]
    ·have q2:((bw S q 4).1==2)=false:=by simpa using h2
     have N:Hid (chr (bw S q 4).1 (cb S p).1=(cb S p).1):=by show chr _ _=_;rw[chr,if_neg O,if_neg h2]
     clear O h2
     go_wp2_with (first|(go_at_call 155;refine (zcW S hS g p _ Q).mono ?_;rintro e w3 ⟨rfl,M,o⟩;have E:=zez D o H;have I:=Nat.le_trans A.size o.size)|(at_builtin;refine zga w3 rfl _ _ 44 rfl w.heap.size 5 i0 Tryz.underlying44 hi Z V ab _ k acc (by rfl) E ((cb S p).1) (by rfl) (by omega) I ?_))
     intro v' w4 z J
     go_wp2
     go_roundw
     case rel=>exact⟨k+1,acc++[(cb S p).1],m,(cb S p).2,by go_num,by omega,by rw[←N.out];exact zgq K.out,z,zcC M J H,zcV (zB A o) J (Nat.le_refl _)⟩
     case measure=>simp[intOf]
end Go.Proofs.YticdggnnpjachaaGreat
