/-
  What the cursor's functions of the specification tell,and what they leave of it: l1New,l1Byte,l1Below,l1Once: the walks.
  What spec.l1Pick tells: one of the texts,none of them long: the walk.
  Tokens of a text,as plain relations: where a run of bytes ends,which token stands at a place,what is passed over,and that each of these is one alone. No program is spoken of.
  What spec's parts of Lex answer: l3Letter,l3Digit,l3Sign,l3Word,l3Num,l3Str,l3Skip: the walks.
  Plain facts on decimal digits. No program is spoken of.
  What impl.Dec and spec.Dec answer,at every number: the walks.
  Two small facts: a block more,and a fact laid by. No program is spoken of.
  Programs,as plain functions: what a row of tokens means. No program is spoken of.
  Texts of programs,as plain functions. No program is spoken of.
  An expression that is used once: the texts of all statements' expressions are together no longer than what all expressions zeg. No program is spoken of.
  What the specification's draws of programs tell: some text,not a long one: the walks.
  What the specification's draw of an item tells: some text,not a long one: the walk.
  The row of the type byte.
  What l1Text of the specification tells: the walk.
-/
import Derived.Test.YthfeoomfiafldaaGreatProg
import Derived.Deep.QuietTactic
import Derived.BigQuiet
import Derived.Test.YthfeoomfiafldaaGreatCdDrawMath
namespace Go.Proofs.YthfeoomfiafldaaGreat
set_option maxHeartbeats 12800000
set_option maxRecDepth 100000
open Go.RowKit Go.PlainAid
theorem zgs {T:TypeId} {S:Src} {w:World} {g:Nat} {q:Nat×Int} (h:zae T S w g q) (n:Nat):zae T S (w.drewN n) g q:=zgr h fun _ _=>rfl
theorem zdu (S:Src) (N:S.ok) (g:Nat) (q:Nat×Int) (w:World) (o:zae 83 S w g q):
  Calls Tryz.prog 77 #[.pointer (some ⟨g,0,none⟩)] w fun e L=>e= .returned (.int .i64 (cb S q).1)∧zae 83 S L g (cb S q).2∧w.grownBy L (some g):=by
 obtain⟨i,h⟩:=q
 obtain⟨D,H,z,U,V⟩:=znb o
 have M:=N.1
 have aa:=zmW
 have ac:=zjs
 simp only at H z
 by_cases E:i<S.len
 ·obtain⟨b,X,O,Y,I⟩:=o.2.2.2 i E
  have ab:b<g:=Nat.lt_of_lt_of_le Y o.2.1
  have hz:=N.2 i
  rw[O] at D
  have K:=zmX (h:=h) E
  have Q:=zh2 (bits .xor .i64 (bh h/8589934592) (bh h/35184372088832))
  rw[zjs] at Q
  have J:Hid (zae 83 S w g (i,h)):=o
  have j:Hid (cb S (i,h)=(bits .and .i64 (bx h+S.Z i) 255,(i+1,bh h))):=K
  clear o K
  go_enter Tryz.func77,Tryz.ntmps77
  go_wp2
  go_quiet (fail)
  go_wp2
  go_quiet (fail)
  go_wp2
  go_quiet (fail)
  go_wp2
  go_ret
  refine⟨zeE (by rw[j.out]),?_,zh3 (zeH (zh3 (World.grownBy.refl _ _) _) _) _⟩
  rw[j.out]
  exact znc (zgs (zjv J.out _) _) (i+1) (by omega)
 ·have J:Hid (zae 83 S w g (i,h)):=o
  have j:Hid (cb S (i,h)=(bx h,(i,bh h))):=zmY E
  clear o
  go_enter Tryz.func77,Tryz.ntmps77
  go_wp2
  go_quiet (fail)
  go_wp2
  go_quiet (fail)
  go_wp2
  go_ret
  exact⟨zeE (by rw[j.out]),by rw[j.out];exact zgs (zgs (zjv J.out _) _) _,zeH (zeH (zh3 (World.grownBy.refl _ _) _) _) _⟩
theorem znd {S:Src} {q:Nat×Int} {n:Int} (h:n≤0):bw S q n=(0,q):=by rw[bw,if_pos h]
theorem zne {S:Src} {q:Nat×Int} {n:Int} (h: ¬n≤0) (k:n≤256):bw S q n=((cb S q).1%n,(cb S q).2):=by rw[bw,if_neg h,if_pos k]
theorem znf {S:Src} {q:Nat×Int} {n:Int} (h: ¬n≤0) (k: ¬n≤256):bw S q n=(((cb S q).1*16777216+(cb S (cb S q).2).1*65536+(cb S (cb S (cb S q).2).2).1*256+(cb S (cb S (cb S (cb S q).2).2).2).1)%n,(cb S (cb S (cb S (cb S q).2).2).2).2):=by rw[bw,if_neg h,if_neg k]
theorem zbI (S:Src) (z:S.ok) (g:Nat) (q:Nat×Int) (n:Int) (w:World) (J:zae 83 S w g q) (_:n≤9223372036854775807):
  Calls Tryz.prog 31 #[.pointer (some ⟨g,0,none⟩),.int .i64 n] w fun e O=>e= .returned (.int .i64 (bw S q n).1)∧zae 83 S O g (bw S q n).2∧w.grownBy O (some g):=by
 by_cases M:n≤0
 ·rw[znd M]
  go_enter Tryz.func31,Tryz.ntmps31
  go_wp2
  go_ret
  exact⟨rfl,J,World.grownBy.refl _ _⟩
 ·by_cases N:n≤256
  ·rw[zne M N]
   have hb:=zdV S q
   go_enter Tryz.func31,Tryz.ntmps31
   go_wp2_with fail
   refine (zdu S z g q _ J).mono ?_
   rintro e Y ⟨rfl,o,j⟩
   go_wp2
   go_ret
   exact⟨rfl,o,j⟩
  ·rw[znf M N]
   have Q:=zdV S q
   have V:=zdV S (cb S q).2
   have X:=zdV S (cb S (cb S q).2).2
   have U:=zdV S (cb S (cb S (cb S q).2).2).2
   go_enter Tryz.func31,Tryz.ntmps31
   go_wp2_with fail
   refine (zdu S z g q _ J).mono ?_
   rintro e Y ⟨rfl,o,j⟩
   go_wp2_with fail
   refine (zdu S z g _ _ o).mono ?_
   rintro e w2 ⟨rfl,D,L⟩
   go_wp2_with fail
   refine (zdu S z g _ _ D).mono ?_
   rintro e Z ⟨rfl,H,I⟩
   go_wp2_with fail
   refine (zdu S z g _ _ H).mono ?_
   rintro e w4 ⟨rfl,E,K⟩
   go_wp2
   go_ret
   exact⟨rfl,E,zN (zN (zN j L) I) K⟩
theorem zdv (S:Src) (H:S.ok) (g:Nat) (q:Nat×Int) (n:Int) (w:World) (E:zae 83 S w g q) (D:n≤9223372036854775807):
  Calls Tryz.prog 15 #[.pointer (some ⟨g,0,none⟩),.int .i64 n] w fun e z=>e= .returned (.bool ((bw S q n).1==0))∧zae 83 S z g (bw S q n).2∧w.grownBy z (some g):=by
 go_enter Tryz.func15,Tryz.ntmps15
 go_wp2_with fail
 refine (zbI S H g q n _ E D).mono ?_
 rintro e I ⟨rfl,o,j⟩
 go_wp2
 go_ret
 exact⟨rfl,o,j⟩
theorem zng (y:Int):0≤bits .and .i64 y 1073741823∧bits .and .i64 y 1073741823≤1073741823:=by
 have e:bits .and .i64 y 1073741823=IntKind.i64.wrap (((BitVec.ofInt 64 y&&& BitVec.ofInt 64 1073741823).toNat:Nat):Int):=rfl
 have h:(BitVec.ofInt 64 y&&& BitVec.ofInt 64 1073741823).toNat≤1073741823:=by
  rw[BitVec.toNat_and]
  exact Nat.and_le_right
 rw[e,IntKind.wrap_i64]
 omega
theorem znh (S:Src) (j:S.ok) (k:Nat):0≤zds S k∧zds S k≤1073741823:=by
 cases k with
 |zero=>have:=j.1;simp only[zds];omega
 |succ k=>exact zng _
theorem zni (S:Src) (O:S.ok) (w:World) (H:CodeW S w) (E:S.lim≤w.heap.size):
  Calls Tryz.prog 14 #[.slice S.a S.len S.cap] w fun e U=>e= .returned (.pointer (some ⟨w.heap.size,0,none⟩))∧zae 83 S U w.heap.size (start S)∧Below w.heap.size w U:=by
 have V:=O.1
 by_cases h0:0<S.len
 ·obtain⟨b,L,J,hb,M⟩:=H 0 h0
  have o: ∀j,j<S.len→w.cell? ⟨b,L+j,none⟩=some (.int .u8 (S.Z j)):=by
   intro j hj
   obtain⟨b',Q,z,ab,D⟩:=H j hj
   rw[J] at z
   simp only[Option.some.injEq,Addr.mk.injEq,and_true] at z
   rw[z.1,z.2]
   exact D
  rw[J]
  go_enter Tryz.func14,Tryz.ntmps14
  go_wp2
  go_loop [3,4] (fun h i=>∃k:Nat,k≤S.len∧k≤4000∧i= .int .i64 k∧h= .int .i64 (zds S k)) (fun _ i=>(4000-intOf i).toNat)
  case atStart=>exact⟨0,by omega,by omega,rfl,rfl⟩
  case round=>
   obtain⟨k,hk,ac,rfl,rfl⟩:=hrel
   have hn:=znh S O k
   have hz:=O.2 k
   by_cases K:k<S.len∧k<4000
   ·obtain⟨N,Y⟩:=K
    have X:=o k N
    clear o
    go_wp2
    go_round
    case rel=>exact⟨k+1,by omega,by omega,by go_num,rfl⟩
    case measure=>simp[intOf];omega
   ·have I:Hid (start S=(0,zds S k)):=by
     show start S=_
     rw[start,show min S.len 4000=k from by omega]
    clear o
    by_cases aa:k<S.len
    all_goals
     go_wp2
     go_ret
     refine⟨rfl,?_,(Below.refl _ _).alloc (Nat.le_refl _) _⟩
     rw[I.out]
     refine⟨?_,E,by simp,zeG H ((Below.refl w.heap.size w).alloc (Nat.le_refl _) _) E⟩
     rw[heap_alloc_new,J]
     rfl
 ·have I:Hid (start S=(0,zds S 0)):=by
   show start S=_
   rw[start,show min S.len 4000=0 from by omega]
  go_enter Tryz.func14,Tryz.ntmps14
  go_wp2
  go_loop [3,4] (fun h i=>i= .int .i64 0∧h= .int .i64 (zds S 0)) (fun _ _=>0)
  case atStart=>exact⟨rfl,rfl⟩
  case round=>
   obtain⟨rfl,rfl⟩:=hrel
   go_wp2
   go_ret
   refine⟨rfl,?_,(Below.refl _ _).alloc (Nat.le_refl _) _⟩
   rw[I.out]
   refine⟨?_,E,by simp,zeG H ((Below.refl w.heap.size w).alloc (Nat.le_refl _) _) E⟩
   rw[heap_alloc_new]
   rfl
theorem znj (S:Src) (U:S.ok) (g:Nat) (q:Nat×Int) (b m N:Nat) (w:World) (J:zae 83 S w g q) (Y:1≤m) (Q:m≤1000)
  (I:b<w.heap.size) (E:b≠g) (o: ∀j,j<m→∃x,w.cell? ⟨b,j,none⟩=some (.string x)∧x.size≤N):
  Calls Tryz.prog 34 #[.pointer (some ⟨g,0,none⟩),.slice (some ⟨b,0,none⟩) m m] w fun e K=>∃x q',e= .returned (.string x)∧x.size≤N∧zae 83 S K g q'∧w.grownBy K (some g):=by
 have M:=zcB S q m (by omega)
 go_enter Tryz.func34,Tryz.ntmps34
 go_wp2_with fail
 refine (zbI S U g q m _ J (by omega)).mono ?_
 rintro e L ⟨rfl,D,z⟩
 obtain⟨x,V,H⟩:=o (bw S q m).1.toNat (by omega)
 have X:L.cell? ⟨b,(bw S q m).1.toNat,none⟩=some (.string x):=by
  rw[←V]
  exact World.cell?_of_block (w:=w) (a:=⟨b,_,none⟩) (z.block b I (by simpa using E))
 have O:Hid (zae 83 S L g (bw S q m).2):=D
 clear o J D
 go_wp2
 go_ret
 exact⟨x,_,rfl,H,O.out,z⟩
def zam (c:Int) (scr:Bool):Bool:=decide (97≤c∧c≤122)||decide (65≤c∧c≤90)||decide (c=95)||(scr&&decide (c=36))
def zG (c:Int):Bool:=decide (48≤c∧c≤57)
def zB (scr:Bool) (c:Int):Bool:=zam c scr||zG c
def zb7 (c:Int):Bool:=decide (c≠10)
abbrev zbQ (c:Int):Prop:=c=9∨c=10∨c=13∨c=32
abbrev zaM (c:Int):Prop:=c=123∨c=125∨c=40∨c=41∨c=44∨c=59∨c=61∨c=46∨c=42∨c=43∨c=45
abbrev zbn (c:Int):Prop:=32≤c∧c≤126∧c≠34∧c≠92
theorem zdI {c:Int} {scr:Bool}:zam c scr=true↔(97≤c∧c≤122)∨(65≤c∧c≤90)∨c=95∨(scr=true∧c=36):=by simp[zam,or_assoc]
theorem zbV {c:Int}:zG c=true↔48≤c∧c≤57:=by simp[zG]
def zax (p:Int→Bool) (s:ByteArray) (a e:Nat):Prop:=a≤e∧e≤s.size∧(∀j,a≤j→j<e→p (bt s j)=true)∧(e<s.size→p (bt s e)=false)
theorem zfz {p:Int→Bool} {s:ByteArray} {a j o:Nat} (J:zax p s a j) (I:zax p s a o):j=o:=by
 obtain⟨H,N,D,E⟩:=J
 obtain⟨L,M,K,z⟩:=I
 rcases Nat.lt_trichotomy j o with h|h|h
 ·have:=K j H h
  rw[E (by omega)] at this
  cases this
 ·exact h
 ·have:=D o L h
  rw[z (by omega)] at this
  cases this
def zbo (s:ByteArray) (a:Nat):Nat→Int
 |0=>0
 |k+1=>zbo s a k*10+(bt s (a+k)-48)
def zbd (s:ByteArray) (a:Nat) (scr:Bool) (n:Int) (e:Nat):Prop:=
 zax zG s a e∧a<e∧(e=a+1∨bt s a≠48)∧n=zbo s a (e-a)∧n≤1000000∧(e<s.size→zam (bt s e) scr=false)
theorem znk {s:ByteArray} {a:Nat} {scr:Bool} {z H:Int} {j o:Nat} (E:zbd s a scr z j) (D:zbd s a scr H o):z=H∧j=o:=by
 have I:=zfz E.1 D.1
 subst I
 exact⟨E.2.2.2.1.trans D.2.2.2.1.symm,rfl⟩
theorem zgt {s:ByteArray} {a:Nat} (k m:Nat) (hd: ∀j,j<m→48≤bt s (a+j)) (J:k≤m):0≤zbo s a k∧zbo s a k≤zbo s a m:=by
 have H: ∀m,(∀j,j<m→48≤bt s (a+j))→0≤zbo s a m:=by
  intro m
  induction m with
  |zero=>intro _;exact Int.le_refl _
  |succ m o=>
   intro h
   have z:=o (fun j D=>h j (by omega))
   have E:=h m (by omega)
   show 0≤zbo s a m*10+(bt s (a+m)-48)
   omega
 induction m with
 |zero=>
  obtain rfl:k=0:=by omega
  exact⟨Int.le_refl _,Int.le_refl _⟩
 |succ m o=>
  by_cases e:k=m+1
  ·subst e
   exact⟨H _ hd,Int.le_refl _⟩
  ·obtain⟨z,E⟩:=o (fun j D=>hd j (by omega)) (by omega)
   have I:=hd m (by omega)
   refine⟨z,?_⟩
   show _≤zbo s a m*10+(bt s (a+m)-48)
   omega
def zb8 (s:ByteArray) (a e:Nat):Prop:=a+2≤e∧e≤s.size∧e≤a+42∧bt s (e-1)=34∧∀j,a<j→j+1<e→zbn (bt s j)
theorem znl {s:ByteArray} {a j o:Nat} (I:zb8 s a j) (H:zb8 s a o):j=o:=by
 obtain⟨N,L,M,E,D⟩:=I
 obtain⟨Q,K,O,z,J⟩:=H
 rcases Nat.lt_trichotomy j o with h|h|h
 ·exact absurd E (J (j-1) (by omega) (by omega)).2.2.1
 ·exact h
 ·exact absurd z (D (o-1) (by omega) (by omega)).2.2.1
structure Tk where
 kind:Int
 text:ByteArray
 num:Int
 pos:Nat
def Tok (s:ByteArray) (scr:Bool) (a:Nat) (t:Tk) (e:Nat):Prop:=
 (zam (bt s a) scr=true∧zax (zB scr) s a e∧t=⟨1,s.extract a e,0,a⟩)∨(∃n,zG (bt s a)=true∧zbd s a scr n e∧t=⟨2,{data:=#[]},n,a⟩)∨(bt s a=34∧zb8 s a e∧t=⟨3,s.extract (a+1) (e-1),0,a⟩)∨(zaM (bt s a)∧t=⟨4,s.extract a (a+1),0,a⟩∧e=a+1)
theorem Tok.name {s:ByteArray} {scr:Bool} {a e:Nat} (h:zam (bt s a) scr=true) (j:zax (zB scr) s a e):Tok s scr a ⟨1,s.extract a e,0,a⟩ e:=.inl ⟨h,j,rfl⟩
theorem Tok.num {s:ByteArray} {scr:Bool} {a e:Nat} {n:Int} (h:zG (bt s a)=true) (j:zbd s a scr n e):Tok s scr a ⟨2,{data:=#[]},n,a⟩ e:=.inr (.inl ⟨n,h,j,rfl⟩)
theorem Tok.str {s:ByteArray} {scr:Bool} {a e:Nat} (h:bt s a=34) (j:zb8 s a e):Tok s scr a ⟨3,s.extract (a+1) (e-1),0,a⟩ e:=.inr (.inr (.inl ⟨h,j,rfl⟩))
theorem Tok.sign {s:ByteArray} {scr:Bool} {a:Nat} (h:zaM (bt s a)):Tok s scr a ⟨4,s.extract a (a+1),0,a⟩ (a+1):=.inr (.inr (.inr ⟨h,rfl,rfl⟩))
theorem Tok.elim {s:ByteArray} {scr:Bool} {a:Nat} {motive:(t:Tk)→(e:Nat)→Tok s scr a t e→Prop} {t:Tk} {e:Nat} (h:Tok s scr a t e) (name: ∀{e:Nat} (h:zam (bt s a) scr=true) (he:zax (zB scr) s a e),motive _ e (.name h he)) (num: ∀{n:Int} {e:Nat} (h:zG (bt s a)=true) (he:zbd s a scr n e),motive _ e (.num h he)) (str: ∀{e:Nat} (h:bt s a=34) (he:zb8 s a e),motive _ e (.str h he)) (sign: ∀(h:zaM (bt s a)),motive _ _ (.sign h)):motive t e h:=by
 rcases h with ⟨h1,h2,rfl⟩|⟨n,h1,h2,rfl⟩|⟨h1,h2,rfl⟩|⟨h1,rfl,rfl⟩
 ·exact name h1 h2
 ·exact num h1 h2
 ·exact str h1 h2
 ·exact sign h1
theorem zdX {c:Int} {scr:Bool} (h:zam c scr=true):zG c=false∧c≠34∧¬zaM c:=by
 rw[zdI] at h
 refine⟨decide_eq_false (by omega),by omega,by unfold zaM;omega⟩
theorem zdY {c:Int} (h:zG c=true):c≠34∧¬zaM c:=by
 rw[zbV] at h
 exact⟨by omega,by unfold zaM;omega⟩
theorem znm {s:ByteArray} {scr:Bool} {a:Nat} {t1 E:Tk} {H I:Nat} (J:Tok s scr a t1 H) (D:Tok s scr a E I):t1=E∧H=I:=by
 cases J using Tok.elim with
 |name h z=>
  have hd:=zdX h
  cases D using Tok.elim with
  |name j o=>have:=zfz z o;subst this;exact⟨rfl,rfl⟩
  |num j o=>rw[hd.1] at j;cases j
  |str j o=>exact absurd j hd.2.1
  |sign j=>exact absurd j hd.2.2
 |num h z=>
  have hd:=zdY h
  cases D using Tok.elim with
  |name j o=>rw[(zdX j).1] at h;cases h
  |num j o=>obtain⟨rfl,rfl⟩:=znk z o;exact⟨rfl,rfl⟩
  |str j o=>exact absurd j hd.1
  |sign j=>exact absurd j hd.2
 |str h z=>
  cases D using Tok.elim with
  |name j o=>exact absurd h (zdX j).2.1
  |num j o=>exact absurd h (zdY j).1
  |str j o=>have:=znl z o;subst this;exact⟨rfl,rfl⟩
  |sign j=>rw[h] at j;unfold zaM at j;omega
 |sign h=>
  cases D using Tok.elim with
  |name j o=>exact absurd h (zdX j).2.2
  |num j o=>exact absurd h (zdY j).2
  |str j o=>rw[j] at h;unfold zaM at h;omega
  |sign j=>exact⟨rfl,rfl⟩
theorem zdJ {s:ByteArray} {scr:Bool} {a:Nat} {t:Tk} {e:Nat} (z:a<s.size) (h:Tok s scr a t e):a<e∧e≤s.size∧t.pos=a:=by
 cases h using Tok.elim with
 |name h j=>
  refine⟨?_,j.2.1,rfl⟩
  rcases Nat.lt_or_ge a e with k|k
  ·exact k
  ·have o:e=a:=by have:=j.1;omega
   subst o
   have:=j.2.2.2 z
   simp[zB,h] at this
 |num h j=>exact⟨j.2.1,j.1.2.1,rfl⟩
 |str h j=>exact⟨by have:=j.1;omega,j.2.1,rfl⟩
 |sign h=>exact⟨by omega,by omega,rfl⟩
abbrev zck (s:ByteArray) (a:Nat):Prop:=bt s a=47∧a+1<s.size∧bt s (a+1)=47
def znn (s:ByteArray) (P:Nat→Nat→Prop):Prop:=P s.size s.size∧(∀a,a<s.size→¬zbQ (bt s a)→¬zck s a→P a a)∧(∀a b,a<s.size→zbQ (bt s a)→P (a+1) b→P a b)∧∀a c b,a<s.size→zck s a→zax zb7 s a c→P c b→P a b
def Skip (s:ByteArray) (a b:Nat):Prop:=∀P,znn s P→P a b
theorem Skip.done {s:ByteArray}:Skip s s.size s.size:=fun _ k=>k.1
theorem Skip.stop {s:ByteArray} {a:Nat} (h:a<s.size) (o: ¬zbQ (bt s a)) (j: ¬zck s a):Skip s a a:=fun _ k=>k.2.1 a h o j
theorem Skip.blank {s:ByteArray} {a b:Nat} (h:a<s.size) (j:zbQ (bt s a)) (r:Skip s (a+1) b):Skip s a b:=fun P k=>k.2.2.1 a b h j (r P k)
theorem Skip.comment {s:ByteArray} {a c b:Nat} (h:a<s.size) (o:zck s a) (j:zax zb7 s a c) (r:Skip s c b):Skip s a b:=fun P k=>k.2.2.2 a c b h o j (r P k)
theorem Skip.ind {s:ByteArray} {motive:(a b:Nat)→Skip s a b→Prop} {a b:Nat} (h:Skip s a b) (done:motive _ _ .done) (stop: ∀{a:Nat} (h:a<s.size) (h1: ¬zbQ (bt s a)) (h2: ¬zck s a),motive a a (.stop h h1 h2)) (blank: ∀{a b:Nat} (h:a<s.size) (h1:zbQ (bt s a)) (r:Skip s (a+1) b),motive _ _ r→motive a b (.blank h h1 r)) (comment: ∀{a c b:Nat} (h:a<s.size) (h1:zck s a) (hc:zax zb7 s a c) (r:Skip s c b),motive _ _ r→motive a b (.comment h h1 hc r)):motive a b h:=
 (h (fun a b=>∃k,motive a b k) ⟨⟨_,done⟩,fun _ h h1 h2=>⟨_,stop h h1 h2⟩,fun _ _ h h1 ⟨r,k⟩=>⟨_,blank h h1 r k⟩,fun _ _ _ h h1 hc ⟨r,k⟩=>⟨_,comment h h1 hc r k⟩⟩).2
theorem Skip.elim {s:ByteArray} {motive:(a b:Nat)→Skip s a b→Prop} {a b:Nat} (h:Skip s a b) (done:motive _ _ .done) (stop: ∀{a:Nat} (h:a<s.size) (h1: ¬zbQ (bt s a)) (h2: ¬zck s a),motive a a (.stop h h1 h2)) (blank: ∀{a b:Nat} (h:a<s.size) (h1:zbQ (bt s a)) (r:Skip s (a+1) b),motive a b (.blank h h1 r)) (comment: ∀{a c b:Nat} (h:a<s.size) (h1:zck s a) (hc:zax zb7 s a c) (r:Skip s c b),motive a b (.comment h h1 hc r)):motive a b h:=
 h.ind done stop (fun h h1 r _=>blank h h1 r) (fun h h1 hc r _=>comment h h1 hc r)
theorem zjw {s:ByteArray} {a:Nat} (h:zck s a): ¬zbQ (bt s a):=by rw[h.1];unfold zbQ;omega
theorem zjx {s:ByteArray} {a H b2:Nat} (J:Skip s a H):Skip s a b2→H=b2:=by
 induction J using Skip.ind with
 |done=>
  intro j
  generalize K:s.size=x at j
  cases j using Skip.elim with
  |done=>rfl
  |stop h _ _=>omega
  |blank h _ _=>omega
  |comment h _ _ _=>omega
 |stop h o D=>
  intro j
  cases j using Skip.elim with
  |done=>rfl
  |stop _ _ _=>rfl
  |blank _ k _=>exact absurd k o
  |comment _ k _ _=>exact absurd k D
 |blank h k _ z=>
  intro j
  cases j using Skip.elim with
  |done=>exact absurd h (Nat.lt_irrefl _)
  |stop _ o _=>exact absurd k o
  |blank _ _ r=>exact z r
  |comment _ o _ _=>exact absurd k (zjw o)
 |comment h k I _ z=>
  intro j
  cases j using Skip.elim with
  |done=>exact absurd h (Nat.lt_irrefl _)
  |stop _ _ D=>exact absurd k D
  |blank _ o _=>exact absurd o (zjw k)
  |comment _ _ E r=>have:=zfz I E;subst this;exact z r
theorem zh4 {s:ByteArray} {a b:Nat} (h:Skip s a b):a≤b∧b≤s.size:=by
 induction h using Skip.ind with
 |done=>exact⟨Nat.le_refl _,Nat.le_refl _⟩
 |stop h _ _=>exact⟨Nat.le_refl _,by omega⟩
 |blank h _ _ j=>exact⟨by omega,j.2⟩
 |comment h _ o _ j=>exact⟨by have:=o.1;omega,j.2⟩
def LxK (s:ByteArray) (scr:Bool) (P:Nat→Nat→Except Nat (List Tk)→Prop):Prop:=(∀n,P s.size n (.ok []))∧(∀a n,a<s.size→(4000≤n∨∀t e,¬Tok s scr a t e)→P a n (.error a))∧∀a n e b t r,a<s.size→n<4000→Tok s scr a t e→Skip s e b→P b (n+1) r→P a n (r.map (t:: ·))
def Lx (s:ByteArray) (scr:Bool) (a n:Nat) (r:Except Nat (List Tk)):Prop:=∀P,LxK s scr P→P a n r
theorem Lx.done {s:ByteArray} {scr:Bool} {n:Nat}:Lx s scr s.size n (.ok []):=fun _ k=>k.1 n
theorem Lx.bad {s:ByteArray} {scr:Bool} {a n:Nat} (h:a<s.size) (j:4000≤n∨∀t e,¬Tok s scr a t e):Lx s scr a n (.error a):=fun _ k=>k.2.1 a n h j
theorem Lx.tok {s:ByteArray} {scr:Bool} {a n e b:Nat} {t:Tk} {r:Except Nat (List Tk)} (h:a<s.size) (j:n<4000) (z:Tok s scr a t e) (o:Skip s e b) (D:Lx s scr b (n+1) r):Lx s scr a n (r.map (t:: ·)):=fun P k=>k.2.2 a n e b t r h j z o (D P k)
theorem Lx.ind {s:ByteArray} {scr:Bool} {motive:(a n:Nat)→(r:Except Nat (List Tk))→Lx s scr a n r→Prop} {a n:Nat} {r:Except Nat (List Tk)} (h:Lx s scr a n r) (done: ∀{n:Nat},motive _ n _ .done) (bad: ∀{a n:Nat} (h:a<s.size) (h1:4000≤n∨∀t e,¬Tok s scr a t e),motive a n _ (.bad h h1)) (tok: ∀{a n e b:Nat} {t:Tk} {r:Except Nat (List Tk)} (h:a<s.size) (hn:n<4000) (ht:Tok s scr a t e) (hs:Skip s e b) (hr:Lx s scr b (n+1) r),motive _ _ _ hr→motive a n _ (.tok h hn ht hs hr)):motive a n r h:=
 (h (fun a n r=>∃k,motive a n r k) ⟨fun _=>⟨_,done⟩,fun _ _ h h1=>⟨_,bad h h1⟩,fun _ _ _ _ _ _ h hn ht hs ⟨hr,k⟩=>⟨_,tok h hn ht hs hr k⟩⟩).2
theorem Lx.elim {s:ByteArray} {scr:Bool} {motive:(a n:Nat)→(r:Except Nat (List Tk))→Lx s scr a n r→Prop} {a n:Nat} {r:Except Nat (List Tk)} (h:Lx s scr a n r) (done: ∀{n:Nat},motive _ n _ .done) (bad: ∀{a n:Nat} (h:a<s.size) (h1:4000≤n∨∀t e,¬Tok s scr a t e),motive a n _ (.bad h h1)) (tok: ∀{a n e b:Nat} {t:Tk} {r:Except Nat (List Tk)} (h:a<s.size) (hn:n<4000) (ht:Tok s scr a t e) (hs:Skip s e b) (hr:Lx s scr b (n+1) r),motive a n _ (.tok h hn ht hs hr)):motive a n r h:=
 h.ind done bad (fun h hn ht hs hr _=>tok h hn ht hs hr)
theorem zno {s:ByteArray} {scr:Bool} {a n:Nat} {H D:Except Nat (List Tk)} (L:Lx s scr a n H):Lx s scr a n D→H=D:=by
 induction L using Lx.ind generalizing D with
 |done=>
  intro j
  generalize M:s.size=x at j
  cases j using Lx.elim with
  |done=>rfl
  |bad h _=>omega
  |tok h _ _ _ _=>omega
 |bad h k=>
  intro j
  cases j using Lx.elim with
  |done=>exact absurd h (Nat.lt_irrefl _)
  |bad _ _=>rfl
  |tok _ I o _ _=>exact k.elim (fun k=>by omega) fun k=>absurd o (k _ _)
 |tok h I o K _ J=>
  intro j
  cases j using Lx.elim with
  |done=>exact absurd h (Nat.lt_irrefl _)
  |bad _ k=>exact k.elim (fun k=>by omega) fun k=>absurd o (k _ _)
  |tok _ _ E z r=>
   obtain⟨rfl,rfl⟩:=znm o E
   have:=zjx K z
   subst this
   rw[J r]
def zY (s:ByteArray) (scr:Bool) (r:Except Nat (List Tk)):Prop:=∃a,Skip s 0 a∧Lx s scr a 0 r
theorem zh5 {s:ByteArray} {scr:Bool} {j o:Except Nat (List Tk)} (H:zY s scr j) (E:zY s scr o):j=o:=by
 obtain⟨a,z,I⟩:=H
 obtain⟨b,D,J⟩:=E
 have:=zjx z D
 subst this
 exact zno I J
theorem zdZ {c:Int} {scr:Bool} (h: ¬((97≤c∧c≤122)∨(65≤c∧c≤90)∨c=95∨(scr=true∧c=36))):zam c scr=false:=by
 rw[Bool.eq_false_iff]
 exact fun k=>h (zdI.1 k)
theorem zjy {c:Int} (h: ¬(48≤c∧c≤57)):zG c=false:=decide_eq_false h
theorem zcR (c:Int) (scr:Bool) (w:World) (U:0≤c) (Q:c≤255):
  Calls Tryz.prog 66 #[.int .u8 c,.bool scr] w fun e L=>e= .returned (.bool (zam c scr))∧L=w:=by
 by_cases O:97≤c
 ·by_cases V:c≤122
  ·skip
   have o:decide (97≤c)=true:=decide_eq_true (by omega)
   have J:decide (c≤122)=true:=decide_eq_true (by omega)
   have j:Hid (zam c scr=true):=zdI.2 (by first|omega|(simp;omega))
   go_enter Tryz.func66,Tryz.ntmps66
   go_wp2
   go_ret
   exact⟨zq j.out.symm,rfl⟩
  ·skip
   cases scr with
   |true=>
    have o:decide (97≤c)=true:=decide_eq_true (by omega)
    have J:decide (c≤122)=false:=decide_eq_false (by omega)
    have z:decide (65≤c)=true:=decide_eq_true (by omega)
    have H:decide (c≤90)=false:=decide_eq_false (by omega)
    have D:(c==95)=false:=beq_eq_false_iff_ne.2 (by omega)
    have E:(c==36)=false:=beq_eq_false_iff_ne.2 (by omega)
    have j:Hid (zam c true=false):=zdZ (by first|omega|(simp;omega))
    go_enter Tryz.func66,Tryz.ntmps66
    go_wp2
    go_ret
    exact⟨zq j.out.symm,rfl⟩
   |false=>
    have o:decide (97≤c)=true:=decide_eq_true (by omega)
    have J:decide (c≤122)=false:=decide_eq_false (by omega)
    have z:decide (65≤c)=true:=decide_eq_true (by omega)
    have H:decide (c≤90)=false:=decide_eq_false (by omega)
    have D:(c==95)=false:=beq_eq_false_iff_ne.2 (by omega)
    have E:(c==36)=false:=beq_eq_false_iff_ne.2 (by omega)
    have j:Hid (zam c false=false):=zdZ (by first|omega|(simp;omega))
    go_enter Tryz.func66,Tryz.ntmps66
    go_wp2
    go_ret
    exact⟨zq j.out.symm,rfl⟩
 ·by_cases N:65≤c
  ·by_cases M:c≤90
   ·skip
    have o:decide (97≤c)=false:=decide_eq_false (by omega)
    have z:decide (65≤c)=true:=decide_eq_true (by omega)
    have H:decide (c≤90)=true:=decide_eq_true (by omega)
    have j:Hid (zam c scr=true):=zdI.2 (by first|omega|(simp;omega))
    go_enter Tryz.func66,Tryz.ntmps66
    go_wp2
    go_ret
    exact⟨zq j.out.symm,rfl⟩
   ·by_cases K:c=95
    ·skip
     have o:decide (97≤c)=false:=decide_eq_false (by omega)
     have z:decide (65≤c)=true:=decide_eq_true (by omega)
     have H:decide (c≤90)=false:=decide_eq_false (by omega)
     have D:(c==95)=true:=beq_iff_eq.2 (by omega)
     have j:Hid (zam c scr=true):=zdI.2 (by first|omega|(simp;omega))
     clear K
     go_enter Tryz.func66,Tryz.ntmps66
     go_wp2
     go_ret
     exact⟨zq j.out.symm,rfl⟩
    ·skip
     cases scr with
     |true=>
      have o:decide (97≤c)=false:=decide_eq_false (by omega)
      have z:decide (65≤c)=true:=decide_eq_true (by omega)
      have H:decide (c≤90)=false:=decide_eq_false (by omega)
      have D:(c==95)=false:=beq_eq_false_iff_ne.2 (by omega)
      have E:(c==36)=false:=beq_eq_false_iff_ne.2 (by omega)
      have j:Hid (zam c true=false):=zdZ (by first|omega|(simp;omega))
      go_enter Tryz.func66,Tryz.ntmps66
      go_wp2
      go_ret
      exact⟨zq j.out.symm,rfl⟩
     |false=>
      have o:decide (97≤c)=false:=decide_eq_false (by omega)
      have z:decide (65≤c)=true:=decide_eq_true (by omega)
      have H:decide (c≤90)=false:=decide_eq_false (by omega)
      have D:(c==95)=false:=beq_eq_false_iff_ne.2 (by omega)
      have E:(c==36)=false:=beq_eq_false_iff_ne.2 (by omega)
      have j:Hid (zam c false=false):=zdZ (by first|omega|(simp;omega))
      go_enter Tryz.func66,Tryz.ntmps66
      go_wp2
      go_ret
      exact⟨zq j.out.symm,rfl⟩
  ·by_cases I:c=36
   ·skip
    cases scr with
    |true=>
     have o:decide (97≤c)=false:=decide_eq_false (by omega)
     have z:decide (65≤c)=false:=decide_eq_false (by omega)
     have D:(c==95)=false:=beq_eq_false_iff_ne.2 (by omega)
     have E:(c==36)=true:=beq_iff_eq.2 (by omega)
     have j:Hid (zam c true=true):=zdI.2 (by first|omega|(simp;omega))
     clear I
     go_enter Tryz.func66,Tryz.ntmps66
     go_wp2
     go_ret
     exact⟨zq j.out.symm,rfl⟩
    |false=>
     have o:decide (97≤c)=false:=decide_eq_false (by omega)
     have z:decide (65≤c)=false:=decide_eq_false (by omega)
     have D:(c==95)=false:=beq_eq_false_iff_ne.2 (by omega)
     have E:(c==36)=true:=beq_iff_eq.2 (by omega)
     have j:Hid (zam c false=false):=zdZ (by first|omega|(simp;omega))
     clear I
     go_enter Tryz.func66,Tryz.ntmps66
     go_wp2
     go_ret
     exact⟨zq j.out.symm,rfl⟩
   ·skip
    cases scr with
    |true=>
     have o:decide (97≤c)=false:=decide_eq_false (by omega)
     have z:decide (65≤c)=false:=decide_eq_false (by omega)
     have D:(c==95)=false:=beq_eq_false_iff_ne.2 (by omega)
     have E:(c==36)=false:=beq_eq_false_iff_ne.2 (by omega)
     have j:Hid (zam c true=false):=zdZ (by first|omega|(simp;omega))
     go_enter Tryz.func66,Tryz.ntmps66
     go_wp2
     go_ret
     exact⟨zq j.out.symm,rfl⟩
    |false=>
     have o:decide (97≤c)=false:=decide_eq_false (by omega)
     have z:decide (65≤c)=false:=decide_eq_false (by omega)
     have D:(c==95)=false:=beq_eq_false_iff_ne.2 (by omega)
     have E:(c==36)=false:=beq_eq_false_iff_ne.2 (by omega)
     have j:Hid (zam c false=false):=zdZ (by first|omega|(simp;omega))
     go_enter Tryz.func66,Tryz.ntmps66
     go_wp2
     go_ret
     exact⟨zq j.out.symm,rfl⟩
theorem zcl (c:Int) (w:World) (J:0≤c) (I:c≤255):
  Calls Tryz.prog 68 #[.int .u8 c] w fun e E=>e= .returned (.bool (zG c))∧E=w:=by
 by_cases o:48≤c
 ·have H:decide (48≤c)=true:=decide_eq_true o
  by_cases z:c≤57
  ·have D:decide (c≤57)=true:=decide_eq_true z
   have j:Hid (zG c=true):=zbV.2 ⟨o,z⟩
   go_enter Tryz.func68,Tryz.ntmps68
   go_wp2
   go_ret
   exact⟨zq j.out.symm,rfl⟩
  ·have D:decide (c≤57)=false:=decide_eq_false z
   have j:Hid (zG c=false):=zjy (by omega)
   go_enter Tryz.func68,Tryz.ntmps68
   go_wp2
   go_ret
   exact⟨zq j.out.symm,rfl⟩
 ·have H:decide (48≤c)=false:=decide_eq_false o
  have j:Hid (zG c=false):=zjy (by omega)
  go_enter Tryz.func68,Tryz.ntmps68
  go_wp2
  go_ret
  exact⟨zq j.out.symm,rfl⟩
def signS:ByteArray:={data:=#[123,125,40,41,44,59,61,46,42,43,45]}
theorem znp (k:Nat) (h:k<11):zaM (bt signS k):=by
 have: ∀k:Fin 11,zaM (bt signS k.val):=by decide
 exact this ⟨k,h⟩
theorem znq (c:Int) (h:zaM c): ∃k,k<11∧bt signS k=c:=by
 rcases h with rfl|rfl|rfl|rfl|rfl|rfl|rfl|rfl|rfl|rfl|rfl
 ·exact⟨0,by decide⟩
 ·exact⟨1,by decide⟩
 ·exact⟨2,by decide⟩
 ·exact⟨3,by decide⟩
 ·exact⟨4,by decide⟩
 ·exact⟨5,by decide⟩
 ·exact⟨6,by decide⟩
 ·exact⟨7,by decide⟩
 ·exact⟨8,by decide⟩
 ·exact⟨9,by decide⟩
 ·exact⟨10,by decide⟩
def zf0 (c:Int):Bool:=decide (zaM c)
theorem zjz (c:Int) (w:World):
  Calls Tryz.prog 71 #[.int .u8 c] w fun e O=>e= .returned (.bool (zf0 c))∧O=w:=by
 have Q:=get_bt signS
 have I:signS.size=11:=rfl
 obtain⟨S,E⟩: ∃S,signS=S:=⟨_,rfl⟩
 have L:Hid (signS=S):=E
 rw[E] at Q I
 go_enter Tryz.func71,Tryz.ntmps71
 go_wp2
 rw[show ({data:=#[123,125,40,41,44,59,61,46,42,43,45]}:ByteArray)=S from E]
 clear E
 go_loop [4] (fun i=>∃k:Nat,k≤11∧i= .int .i64 k∧∀j,j<k→bt S j≠c) (fun i=>(11-intOf i).toNat)
 case atStart=>exact⟨0,by omega,rfl,fun j H=>absurd H (Nat.not_lt_zero j)⟩
 case round=>
  obtain⟨k,U,rfl,z⟩:=hrel
  have D:Hid (∀j,j<k→bt S j≠c):=z
  clear z
  by_cases K:k<11
  ·by_cases o:bt S k=c
   ·have N:(bt S k==c)=true:=by simpa using o
    have J:Hid (zf0 c=true):=decide_eq_true (by rw[←o,←L.out];exact znp k K)
    clear o
    go_wp2
    go_ret
    exact⟨zq J.out.symm,rfl⟩
   ·have N:(bt S k==c)=false:=by simpa using o
    have M:Hid (∀j,j<k+1→bt S j≠c):=fun j H=>by
     by_cases e:j=k
     ·rw[e];exact o
     ·exact D.out j (by omega)
    clear o
    go_wp2
    go_round
    case rel=>exact⟨k+1,by omega,by go_num,M.out⟩
    case measure=>simp[intOf];omega
  ·have J:Hid (zf0 c=false):=decide_eq_false (fun h=>by
    obtain⟨j,H,e⟩:=znq c h
    rw[L.out] at e
    exact D.out j (by omega) e)
   go_wp2
   go_ret
   exact⟨zq J.out.symm,rfl⟩
theorem zea (k:Nat):(0:Int)<10^k:=Int.pow_pos (by omega)
theorem zdK (k:Nat):(10:Int)^(k+1)=10^k*10:=Int.pow_succ _ _
theorem zf1 {a b:Nat} (h:a≤b):(10:Int)^a≤10^b:=by
 induction b with
 |zero=>
  obtain rfl:a=0:=by omega
  exact Int.le_refl _
 |succ b j=>
  by_cases e:a=b+1
  ·rw[e];exact Int.le_refl _
  ·have:=j (by omega)
   have:=zea b
   rw[zdK]
   omega
theorem zeb (n:Int) (k:Nat):n/10^k/10=n/10^(k+1):=by
 rw[zdK,Int.ediv_ediv_of_nonneg (Int.le_of_lt (zea k))]
theorem zeI (n:Int) (k:Nat) (h:0≤n):0≤n/10^k∧n/10^k≤n:=
 ⟨Int.ediv_nonneg h (Int.le_of_lt (zea k)),Int.ediv_le_self _ h⟩
def dc:Nat→Int→Nat
 |0,_=>1
 |f+1,q=>if q<10 then 1 else dc f (q/10)+1
theorem znr (f:Nat) (q:Int) (z:0≤q) (h:q<10^(f+1)):1≤dc f q∧dc f q≤f+1∧q<10^dc f q∧(dc f q=1∨10^(dc f q-1)≤q):=by
 induction f generalizing q with
 |zero=>simpa [dc] using h
 |succ f o=>
  unfold dc
  by_cases j:q<10
  ·rw[if_pos j]
   exact⟨by omega,by omega,by simpa using j,.inl rfl⟩
  ·rw[if_neg j]
   obtain⟨a,b,c,d⟩:=o (q/10) (by omega) (by rw[zdK] at h;omega)
   refine⟨by omega,by omega,?_,.inr ?_⟩
   ·rw[zdK];omega
   ·rw[Nat.add_sub_cancel]
    rcases d with d|d
    ·rw[d]
     show (10:Int)^1≤q
     rw[show (10:Int)^1=10 from by decide]
     omega
    ·rw[show dc f (q/10)=(dc f (q/10)-1)+1 from by omega,zdK]
     omega
def dcn (m:Int):Nat:=dc 19 m
theorem zcS (m:Int) (j:0≤m) (h:m≤18446744073709551615):1≤dcn m∧dcn m≤20∧m<10^dcn m∧(dcn m=1∨10^(dcn m-1)≤m):=
 znr 19 m j (by rw[show (10:Int)^(19+1)=100000000000000000000 by decide];omega)
theorem zns (m:Int) (o:0≤m) (h:m≤18446744073709551615) (k:Nat):10≤m/10^k↔k+1<dcn m:=by
 obtain⟨a,b,c,d⟩:=zcS m o h
 rw[Int.le_ediv_iff_mul_le (zea k),Int.mul_comm,←zdK]
 constructor
 ·intro j
  rcases Nat.lt_or_ge (k+1) (dcn m) with e|e
  ·exact e
  ·have:=zf1 e
   omega
 ·intro j
  have:=zf1 (show k+1≤dcn m-1 by omega)
  omega
theorem zj0 (m:Int) (o:1≤m) (h:m≤18446744073709551615) (k:Nat):m/10^k≠0↔k<dcn m:=by
 obtain⟨a,b,c,d⟩:=zcS m (by omega) h
 have z:=zeI m k (by omega)
 have:m/10^k≠0↔1≤m/10^k:=by omega
 rw[this,Int.le_ediv_iff_mul_le (zea k),Int.one_mul]
 constructor
 ·intro j
  rcases Nat.lt_or_ge k (dcn m) with e|e
  ·exact e
  ·have:=zf1 e
   omega
 ·intro j
  have:=zf1 (show k≤dcn m-1 by omega)
  rcases d with d|d
  ·obtain rfl:k=0:=by omega
   simpa using o
  ·omega
def dgk (m:Int):Nat→List Int
 |0=>[]
 |k+1=>(48+m/10^k%10)::dgk m k
theorem zcm (m:Int) (k:Nat):(dgk m k).length=k:=by
 induction k with
 |zero=>rfl
 |succ k j=>simp[dgk,j]
theorem zh6 (m:Int) (c k:Nat) (h:k<c):(dgk m c)[c-1-k]? =some (48+m/10^k%10):=by
 induction c with
 |zero=>omega
 |succ c j=>
  by_cases e:k=c
  ·subst e
   rw[show k+1-1-k=0 from by omega]
   rfl
  ·rw[show c+1-1-k=(c-1-k)+1 from by omega,dgk,List.getElem?_cons_succ]
   exact j (by omega)
def zgu (n:Int):Int:=if n<0 then-n else n
def zaN (n:Int):List Int:=(if n<0 then [45] else [])++dgk (zgu n) (dcn (zgu n))
theorem zh7 {n:Int} (h:n<0):zaN n=45::dgk (-n) (dcn (-n)):=by simp[zaN,h,zgu]
theorem zgv {n:Int} (h:0≤n):zaN n=dgk n (dcn n):=by
 have: ¬n<0:=by omega
 simp[zaN,this,zgu]
theorem znt (L:List Int):zcA L L.length=L:=by simp[zcA]
theorem znu (x:Int) (L:List Int):(zcA (x::L) L.length).set 0 x=x::L:=by
 simp[zcA]
theorem znv (p:List Int) (m:Int) (c k:Nat) (h:k<c):(p++dgk m c)[(p++dgk m c).length-1-k]? =some (48+m/10^k%10):=by
 rw[List.length_append,zcm,List.getElem?_append_right (by omega),show p.length+c-1-k-p.length=c-1-k from by omega]
 exact zh6 m c k h
theorem Tryz.infoByte:(Tryz.prog.info? 5).map (fun i=>(i.zero,i.size,i.bytes))=some (some (.int .u8 0),1,1):=by kernel_rfl
theorem zj1 (m:Int) (w:World) (E:0≤m) (H:m≤18446744073709551615):
  Calls Tryz.prog 145 #[.int .u64 m] w fun e I=>e= .returned (.int .i64 (dcn m))∧I=w:=by
 have hd:=zcS m E H
 have J:dcn m≤20:=hd.2.1
 have z:1≤dcn m:=hd.1
 clear hd
 go_enter Tryz.func145,Tryz.ntmps145
 go_wp2
 go_loop [0,3] (fun a c=>∃k:Nat,k+1≤dcn m∧a= .int .u64 (m/10^k)∧c= .int .i64 ((k:Int)+1)) (fun a _=>(intOf a).toNat)
 case atStart=>exact⟨0,z,by simp,rfl⟩
 case round=>
  obtain⟨k,K,rfl,rfl⟩:=hrel
  have L:=zeI m k E
  have o:=zns m E H k
  by_cases j:10≤m/10^k
  ·have D:=o.1 j
   clear o
   go_wp2
   go_round
   case rel=>exact⟨k+1,by omega,by rw[zeb],by go_num⟩
   case measure=>simp[intOf];omega
  ·have D: ¬(k+1<dcn m):=fun h=>j (o.2 h)
   clear o
   go_wp2
   go_ret
   exact⟨zeE (by omega),rfl⟩
theorem znw (n:Int) (w:World) (Q:0≤n) (h1:n≤9223372036854775807):
  Calls Tryz.prog 129 #[.int .i64 n] w fun e E=>e= .returned (.string (strOfNums (dgk n (dcn n))))∧Below w.heap.size w E:=by
 obtain⟨Y,V,N,K,M⟩:=info_parts Tryz.infoByte
 have hd:=zcS n Q (by omega)
 have X:dcn n≤20:=hd.2.1
 have Z:1≤dcn n:=hd.1
 clear hd
 go_enter Tryz.func129,Tryz.ntmps129
 go_wp2_with (first|(go_at_call 145;refine (zj1 _ _ (by omega) (by omega)).mono ?_;rintro e E ⟨rfl,rfl⟩)|(at_make;refine wpList_make_full _ rfl _ _ 22 rfl E.heap.size 5 Y (.int .u8 0) 1 Tryz.underlying22 V N K _ _ _ _ (dcn n) rfl rfl (by omega) (by omega) ?b2 ?b3 ?b4 ?_))
 case b2=>rw[M];omega
 case b3=>unfold maxLen;omega
 case b4=>exact Nat.le_refl _
 intro w1 o D
 have H:=(Below.refl E.heap.size E).grown D (Nat.le_refl _) (by intro k O;cases O)
 rw[toList_madeCells_one] at o
 clear D
 go_wp2
 go_loopw [3,7,21] (fun r _ i wr=>∃k:Nat,k≤dcn n∧i= .int .i64 k∧r= .int .u64 (n/10^k)∧zb6 wr E.heap.size 5 (.slice (some ⟨E.heap.size,0,none⟩) (dcn n) (dcn n)) (dcn n) (zcA (dgk n (dcn n)) k)∧Below E.heap.size E wr) (fun _ _ i _=>dcn n-(intOf i).toNat)
 case atStart=>exact⟨0,by omega,rfl,by simp,by unfold zb6;rw[zjo,zcm,List.map_replicate];exact o,H⟩
 case round=>
  obtain⟨k,O,rfl,rfl,j,z⟩:=hrel
  clear o H
  have hb:=zeI n k Q
  by_cases I:k<dcn n
  ·obtain⟨v,hv⟩:=zhz j (dcn n-1-k) (by omega)
   have hf:=zh0 j (dcn n-1-k)
   have U:=zhy j (dcn n-1-k) (48+n/10^k%10)
   have J:=zjp (dgk n (dcn n)) k (48+n/10^k%10) (by rw[zcm];exact I) (by rw[zcm];exact zh6 n _ k I)
   rw[zcm] at J
   rw[J] at U
   clear J j
   go_wp2
   go_roundw
   case rel=>exact⟨k+1,by omega,by go_num,by rw[zeb],U,z.setCell (Nat.le_refl _) _⟩
   case measure=>simp[intOf];omega
  ·have L:=znt (dgk n (dcn n))
   rw[zcm] at L
   rw[show k=dcn n from by omega,L] at j
   clear L
   have aa:=zhw (P:=Tryz.prog) (src:=22) (dst:=9) Tryz.underlying22 Tryz.underlying5 Tryz.underlying9 j
   go_wp2
   go_ret
   exact⟨rfl,z⟩
theorem znx (m:Int) (j:0<m) (o:m≤9223372036854775808):IntKind.u64.wrap (-IntKind.u64.wrap (-m))=m:=by
 rw[IntKind.wrap_u64,IntKind.wrap_u64];omega
theorem zny (m:Int) (w:World) (h0:0<m) (X:m≤9223372036854775808):
  Calls Tryz.prog 129 #[.int .i64 (-m)] w fun e E=>e= .returned (.string (strOfNums (45::dgk m (dcn m))))∧Below w.heap.size w E:=by
 obtain⟨i0,Z,U,L,O⟩:=info_parts Tryz.infoByte
 have hd:=zcS m (by omega) (by omega)
 have aa:dcn m≤20:=hd.2.1
 have ab:1≤dcn m:=hd.1
 clear hd
 have Y:=znx m h0 X
 go_enter Tryz.func129,Tryz.ntmps129
 go_wp2_with (first|(go_at_call 145;refine (zj1 _ _ (by omega) (by omega)).mono ?_;rintro e E ⟨rfl,rfl⟩)|(at_make;refine wpList_make_full _ rfl _ _ 22 rfl E.heap.size 5 i0 (.int .u8 0) 1 Tryz.underlying22 Z U L _ _ _ _ (dcn m+1) rfl rfl (by omega) (by omega) ?b2 ?b3 ?b4 ?_))
 case b2=>rw[O];omega
 case b3=>unfold maxLen;omega
 case b4=>exact Nat.le_refl _
 intro w1 o D
 have I:=(Below.refl E.heap.size E).grown D (Nat.le_refl _) (by intro k V;cases V)
 rw[toList_madeCells_one] at o
 clear D
 have H:(45::dgk m (dcn m)).length=dcn m+1:=by rw[List.length_cons,zcm]
 have Q:Hid ((45::dgk m (dcn m)).length=dcn m+1):=H
 clear H
 go_wp2
 go_loopw [3,7,21] (fun r _ i wr=>∃k:Nat,k≤dcn m∧i= .int .i64 k∧r= .int .u64 (m/10^k)∧zb6 wr E.heap.size 5 (.slice (some ⟨E.heap.size,0,none⟩) (dcn m+1) (dcn m+1)) (dcn m+1) (zcA (45::dgk m (dcn m)) k)∧Below E.heap.size E wr) (fun _ _ i _=>dcn m-(intOf i).toNat)
 case atStart=>exact⟨0,by omega,rfl,by simp,by unfold zb6;rw[zjo,Q.out,List.map_replicate];exact o,I⟩
 case round=>
  obtain⟨k,V,rfl,rfl,j,z⟩:=hrel
  clear o I Y
  have hb:=zeI m k (by omega)
  by_cases M:k<dcn m
  ·obtain⟨v,hv⟩:=zhz j (dcn m-k) (by omega)
   have hf:=zh0 j (dcn m-k)
   have J:=zhy j (dcn m-k) (48+m/10^k%10)
   have K:=zjp (45::dgk m (dcn m)) k (48+m/10^k%10) (by rw[Q.out];omega) (znv [45] m (dcn m) k M)
   rw[Q.out,show dcn m+1-1-k=dcn m-k from by omega] at K
   rw[K] at J
   clear K j
   go_wp2
   go_roundw
   case rel=>exact⟨k+1,by omega,by go_num,by rw[zeb],J,z.setCell (Nat.le_refl _) _⟩
   case measure=>simp[intOf];omega
  ·have N:=znu 45 (dgk m (dcn m))
   rw[zcm] at N
   rw[show k=dcn m from by omega] at j
   obtain⟨v,hv⟩:=zhz j 0 (by omega)
   have hf:=zh0 j 0
   have J:=zhy j 0 45
   rw[N] at J
   clear N j
   have ac:=zhw (P:=Tryz.prog) (src:=22) (dst:=9) Tryz.underlying22 Tryz.underlying5 Tryz.underlying9 J
   go_wp2
   go_ret
   exact⟨rfl,z.setCell (Nat.le_refl _) _⟩
theorem znz (n:Int) (w:World) (j: -9223372036854775808≤n∧n≤9223372036854775807):
  Calls Tryz.prog 129 #[.int .i64 n] w fun e o=>e= .returned (.string (strOfNums (zaN n)))∧Below w.heap.size w o:=by
 by_cases h:0≤n
 ·rw[zgv h]
  exact znw n w h j.2
 ·obtain⟨m,rfl⟩: ∃m,n= -m:=⟨-n,by omega⟩
  rw[zh7 (by omega),Int.neg_neg]
  exact zny m w (by omega) (by omega)
theorem neg_tmod (q:Int) (h:0≤q):(-q).tmod 10= -(q%10):=by rw[Int.neg_tmod,Int.tmod_eq_emod_of_nonneg h]
theorem neg_tdiv (q:Int) (h:0≤q):(-q).tdiv 10= -(q/10):=by rw[Int.neg_tdiv,Int.tdiv_eq_ediv_of_nonneg h]
theorem zn0 (n:Int) (w:World) (Z:0<n) (V:n≤9223372036854775807):
  Calls Tryz.prog 10 #[.int .i64 n] w fun e L=>e= .returned (.string (strOfNums (dgk n (dcn n))))∧Below w.heap.size w L:=by
 have hd:=zcS n (by omega) (by omega)
 have M:dcn n≤20:=hd.2.1
 have O:1≤dcn n:=hd.1
 have U:(n==0)=false:=by simp;omega
 have I: ¬n<0:=by omega
 clear hd
 go_enter Tryz.func10,Tryz.ntmps10
 go_wp2
 go_loopw [0,3,5] (fun a o _ wr=>∃k:Nat,k≤dcn n∧a= .int .i64 (n/10^k)∧o= .string (strOfNums (dgk n k))∧Below w.heap.size w wr) (fun a _ _ _=>(intOf a).toNat)
 case atStart=>exact⟨0,by omega,by simp,rfl,Below.refl _ _⟩
 case round=>
  obtain⟨k,X,rfl,rfl,j⟩:=hrel
  have Y:=zeI n k (by omega)
  have D:=zj0 n (by omega) (by omega) k
  have N:(strOfNums (dgk n k)).size≤20:=by rw[strOfNums_size,zcm];omega
  by_cases z:n/10^k=0
  ·have E: ¬(k<dcn n):=fun h=>D.2 h z
   have H:(n/10^k !=0)=false:=by simpa using z
   clear D z
   go_wp2
   go_ret
   exact⟨zdF (by rw[show dcn n=k from by omega]),j⟩
  ·have E:=D.1 z
   have H:(n/10^k !=0)=true:=by simpa using z
   have K:0<n/10^k:=by omega
   clear D z
   have Q:=fun (w:World) (x:Int)=>zhx (P:=Tryz.prog) (src:=22) (dst:=9) Tryz.underlying22 Tryz.underlying5 Tryz.underlying9 w x
   have J:=fun x=>strOfNums_size [x]
   go_wp2
   go_roundw
   case rel=>exact⟨k+1,by omega,by rw[zeb],by rw[zgn];rfl,j.alloc j.size _⟩
   case measure=>simp[intOf];omega
theorem zn1 (m:Int) (w:World) (h0:0<m) (Y:m≤9223372036854775808):
  Calls Tryz.prog 10 #[.int .i64 (-m)] w fun e M=>e= .returned (.string (strOfNums (45::dgk m (dcn m))))∧Below w.heap.size w M:=by
 have hd:=zcS m (by omega) (by omega)
 have N:dcn m≤20:=hd.2.1
 have Q:1≤dcn m:=hd.1
 have V:(-m==0)=false:=by simp;omega
 clear hd
 go_enter Tryz.func10,Tryz.ntmps10
 go_wp2
 go_loopw [0,3,5] (fun a o _ wr=>∃k:Nat,k≤dcn m∧a= .int .i64 (-(m/10^k))∧o= .string (strOfNums (dgk m k))∧Below w.heap.size w wr) (fun a _ _ _=>(-(intOf a)).toNat)
 case atStart=>exact⟨0,by omega,by simp,rfl,Below.refl _ _⟩
 case round=>
  obtain⟨k,Z,rfl,rfl,j⟩:=hrel
  have I:=zeI m k (by omega)
  have D:=zj0 m (by omega) (by omega) k
  have O:(strOfNums (dgk m k)).size≤20:=by rw[strOfNums_size,zcm];omega
  by_cases z:m/10^k=0
  ·have E: ¬(k<dcn m):=fun h=>D.2 h z
   have H:(-(m/10^k) !=0)=false:=by simpa using z
   have J:(strOfNums [45]).size=1:=strOfNums_size [45]
   clear D z
   go_wp2
   go_ret
   exact⟨zdF (by rw[show dcn m=k from by omega];exact zgn 45 _),j⟩
  ·have E:=D.1 z
   have H:(-(m/10^k) !=0)=true:=by simpa using z
   have L:0<m/10^k:=by omega
   clear D z
   have e1:=neg_tmod (m/10^k) I.1
   have X:=neg_tdiv (m/10^k) I.1
   have U:=fun (w:World) (x:Int)=>zhx (P:=Tryz.prog) (src:=22) (dst:=9) Tryz.underlying22 Tryz.underlying5 Tryz.underlying9 w x
   have K:=fun x=>strOfNums_size [x]
   by_cases hd:0<m/10^k%10
   ·go_wp2
    go_roundw
    case rel=>exact⟨k+1,by omega,by rw[zeb],by rw[zgn];rfl,j.alloc j.size _⟩
    case measure=>simp[intOf];omega
   ·go_wp2
    go_roundw
    case rel=>exact⟨k+1,by omega,by rw[zeb],by rw[zgn,show 48+ -(m/10^k%10)=48+m/10^k%10 from by omega];rfl,j.alloc j.size _⟩
    case measure=>simp[intOf];omega
theorem zh8 (n:Int) (w:World) (o: -9223372036854775808≤n∧n≤9223372036854775807):
  Calls Tryz.prog 10 #[.int .i64 n] w fun e j=>e= .returned (.string (strOfNums (zaN n)))∧Below w.heap.size w j:=by
 by_cases h:0<n
 ·rw[zgv (by omega)]
  exact zn0 n w h o.2
 ·by_cases D:n=0
  ·subst D
   have z:Hid (zaN 0=[48]):=by show zaN 0=[48];decide
   go_enter Tryz.func10,Tryz.ntmps10
   go_wp2
   go_ret
   exact⟨zdF (by rw[z.out];rfl),Below.refl _ _⟩
  ·obtain⟨m,rfl⟩: ∃m,n= -m:=⟨-n,by omega⟩
   rw[zh7 (by omega),Int.neg_neg]
   exact zn1 m w (by omega) (by omega)
theorem zW (w:World) (o:Obj):(w.alloc o).heap.size=w.heap.size+1:=by show (w.heap.push _).size=_;simp
theorem zc {p:Prop} (h:p):Hid p:=h
structure Ex where
 kind:Int
 num:Int
 name:ByteArray
 field:ByteArray
 l:Int
 r:Int
structure Sm where
 kind:Int
 name:ByteArray
 expr:Int
structure Im where
 spec:ByteArray
 first:ByteArray
 loc:ByteArray
structure Ep where
 kind:Int
 name:ByteArray
 loc:ByteArray
 spec:ByteArray
structure Cx where
 ts:List Tk
 fin:Nat
 scr:Bool
structure PS where
 pos:Nat
 rq:List ByteArray
 im:List Im
 ep:List Ep
 st:List Sm
 ex:List Ex
 la:List Ep
abbrev PR:=Except Nat PS
abbrev sNone:ByteArray:={data:=#[]}
abbrev sImport:ByteArray:={data:=#[105,109,112,111,114,116]}
abbrev sExport:ByteArray:={data:=#[101,120,112,111,114,116]}
abbrev sDefault:ByteArray:={data:=#[100,101,102,97,117,108,116]}
abbrev sLet:ByteArray:={data:=#[108,101,116]}
abbrev sFunction:ByteArray:={data:=#[102,117,110,99,116,105,111,110]}
abbrev zdw:ByteArray:={data:=#[114,101,116,117,114,110]}
abbrev sPrint:ByteArray:={data:=#[112,114,105,110,116]}
abbrev sThrow:ByteArray:={data:=#[116,104,114,111,119]}
abbrev sFail:ByteArray:={data:=#[102,97,105,108]}
abbrev sUndef:ByteArray:={data:=#[117,110,100,101,102]}
abbrev sAs:ByteArray:={data:=#[97,115]}
abbrev zH:ByteArray:={data:=#[102,114,111,109]}
abbrev zbp:ByteArray:={data:=#[42,100,101,102,97,117,108,116]}
abbrev cOpen:ByteArray:={data:=#[40]}
abbrev zU:ByteArray:={data:=#[41]}
abbrev zp:ByteArray:={data:=#[42]}
abbrev zbq:ByteArray:={data:=#[43]}
abbrev zbv:ByteArray:={data:=#[44]}
abbrev zaI:ByteArray:={data:=#[45]}
abbrev cPoint:ByteArray:={data:=#[46]}
abbrev cSemi:ByteArray:={data:=#[59]}
abbrev cEq:ByteArray:={data:=#[61]}
abbrev zF:ByteArray:={data:=#[123]}
abbrev zaJ:ByteArray:={data:=#[125]}
def bd {α β:Type} (x:Except Nat α) (f:α→Except Nat β):Except Nat β:=
 match x with
 | .ok a=>f a
 | .error e=>.error e
theorem zh {α β:Type} (a:α) (f:α→Except Nat β):bd (.ok a) f=f a:=rfl
theorem zec {α β:Type} (e:Nat) (f:α→Except Nat β):bd (.error e) f= .error e:=rfl
theorem zR {α β γ:Type} (x:Except Nat α) (f:α→Except Nat β) (g:β→Except Nat γ):bd (bd x f) g=bd x fun a=>bd (f a) g:=by cases x<;>rfl
theorem zaf {α β:Type} {x:Except Nat α} {f g:α→Except Nat β} (h: ∀a,x= .ok a→f a=g a):bd x f=bd x g:=by
 cases x with
 |ok a=>exact h a rfl
 |error e=>rfl
theorem ze {α β:Type} {x:Except Nat α} {f:α→Except Nat β} {b:β} (h:bd x f= .ok b): ∃a,x= .ok a∧f a= .ok b:=by
 cases x with
 |ok a=>exact⟨a,rfl,h⟩
 |error e=>cases h
def zf (C:Cx) (i:Nat):Tk:=C.ts.getD i ⟨0,sNone,0,C.fin⟩
def zu (C:Cx) (i:Nat):Nat:=(zf C i).pos
def isT (C:Cx) (i:Nat) (k:Int) (x:ByteArray):Bool:=((zf C i).kind==k)&&((zf C i).text.toList==x.toList)
def adv (q:PS):PS:={q with pos:=q.pos+1}
def zd (C:Cx) (k:Int) (x:ByteArray) (q:PS):PR:=if isT C q.pos k x then .ok (adv q) else .error (zu C q.pos)
def zr (x:ByteArray) (scr:Bool):Bool:=
 x.toList==[105,109,112,111,114,116]||x.toList==[101,120,112,111,114,116]||x.toList==[100,101,102,97,117,108,116]||x.toList==[108,101,116]||x.toList==[102,117,110,99,116,105,111,110]||x.toList==[114,101,116,117,114,110]||x.toList==[112,114,105,110,116]||x.toList==[116,104,114,111,119]
  ||((x.toList==[102,97,105,108]||x.toList==[117,110,100,101,102])&&scr)
def plainB (C:Cx) (i:Nat) (o:Bool):Bool:=((zf C i).kind==1)&&(!zr (zf C i).text C.scr||(o&&((zf C i).text.toList==[100,101,102,97,117,108,116])))
def zk (C:Cx) (o:Bool) (q:PS):Except Nat (PS×ByteArray):=if plainB C q.pos o then .ok (adv q,(zf C q.pos).text) else .error (zu C q.pos)
def zbe (l:List ByteArray) (x:ByteArray):Bool:=l.any fun y=>y.toList==x.toList
def zy (C:Cx) (q:PS):Except Nat (PS×ByteArray):=
 if (zf C q.pos).kind==3 then
  if zbe q.rq (zf C q.pos).text then .ok (adv q,(zf C q.pos).text)
  else if 40≤q.rq.length then .error (zu C q.pos)
  else .ok ({adv q with rq:=q.rq++[(zf C q.pos).text]},(zf C q.pos).text)
 else .error (zu C q.pos)
def zX (C:Cx) (x:Im) (q:PS):PR:=if 40≤q.im.length then .error (zu C (q.pos-1)) else .ok {q with im:=q.im++[x]}
def zm (C:Cx) (x:Ep) (q:PS):PR:=
 if 40≤q.ep.length+q.la.length then .error (zu C (q.pos-1))
 else if x.loc.toList==[42,100,101,102,97,117,108,116] then .ok {q with la:=q.la++[x]} else .ok {q with ep:=q.ep++[x]}
def zE (C:Cx) (k:Int) (n:ByteArray) (q:PS):PR:=if 80≤q.st.length then .error (zu C (q.pos-1)) else .ok {q with st:=q.st++[⟨k,n,(q.ex.length:Int)-1⟩]}
def zJ (C:Cx) (x:Ex) (q:PS):PR:=if 300≤q.ex.length then .error (zu C (q.pos-1)) else .ok {q with ex:=q.ex++[x]}
def zau (C:Cx) (n:ByteArray) (q:PS):PR:=
 if isT C q.pos 4 cOpen then bd (bd (zd C 4 cOpen q) (zd C 4 zU)) (zJ C ⟨3,0,n,sNone,0,0⟩) else zJ C ⟨2,0,n,sNone,0,0⟩ q
def za5 (C:Cx) (n f:ByteArray) (q:PS):PR:=
 if isT C q.pos 4 cOpen then bd (bd (zd C 4 cOpen q) (zd C 4 zU)) (zJ C ⟨5,0,n,f,0,0⟩) else zJ C ⟨4,0,n,f,0,0⟩ q
abbrev NT:Type:=Option (Option (Option (Option Unit)))
abbrev NT.sum:NT:=none
abbrev NT.sumT:NT:=some none
abbrev NT.prod:NT:=some (some none)
abbrev NT.prodT:NT:=some (some (some none))
abbrev NT.part:NT:=some (some (some (some ())))
theorem NT.elim {motive:NT→Prop} (nt:NT) (sum:motive .sum) (sumT:motive .sumT) (prod:motive .prod) (prodT:motive .prodT) (part:motive .part):motive nt:=
 match nt with
 |none=>sum
 |some none=>sumT
 |some (some none)=>prod
 |some (some (some none))=>prodT
 |some (some (some (some ())))=>part
def zbw (C:Cx) (i:Nat):Int:=if isT C i 4 zaI then 7 else 6
def ev (C:Cx):Nat→NT→Nat→PS→PR
 |0,_,_,_=>.error 0
 |f+1,none,d,q=>bd (ev C f .prod d q) (ev C f .sumT d)
 |f+1,some none,d,q=>
  if isT C q.pos 4 zbq||isT C q.pos 4 zaI then
   bd (bd (ev C f .prod d (adv q)) fun q'=>zJ C ⟨zbw C q.pos,0,sNone,sNone,(q.ex.length:Int)-1,(q'.ex.length:Int)-1⟩ q') (ev C f .sumT d)
  else .ok q
 |f+1,some (some none),d,q=>bd (ev C f .part d q) (ev C f .prodT d)
 |f+1,some (some (some none)),d,q=>
  if isT C q.pos 4 zp then
   bd (bd (ev C f .part d (adv q)) fun q'=>zJ C ⟨8,0,sNone,sNone,(q.ex.length:Int)-1,(q'.ex.length:Int)-1⟩ q') (ev C f .prodT d)
  else .ok q
 |f+1,some (some (some (some ()))),d,q=>
  if (zf C q.pos).kind==2 then zJ C ⟨1,(zf C q.pos).num,sNone,sNone,0,0⟩ (adv q)
  else if isT C q.pos 4 cOpen then
   if 20≤d then .error (zu C q.pos) else bd (ev C f .sum (d+1) (adv q)) (zd C 4 zU)
  else if C.scr&&isT C q.pos 1 sUndef then zau C sUndef (adv q)
  else bd (zk C false q) fun x=>if isT C x.1.pos 4 cPoint then bd (zk C true (adv x.1)) fun y=>za5 C x.2 y.2 y.1 else zau C x.2 x.1
def nd (C:Cx) (nt:NT) (q:PS):Nat:=
 5*(C.ts.length-q.pos)+match nt with
  | .sum=>3
  | .prod=>2
  |_=>1
def pE (C:Cx) (nt:NT) (d:Nat) (q:PS):PR:=ev C (nd C nt q) nt d q
theorem zcT {C:Cx} {i:Nat} (h:C.ts.length≤i):zf C i=⟨0,sNone,0,C.fin⟩:=by simp[zf,List.getD,List.getElem?_eq_none h]
theorem za1 {C:Cx} {i:Nat} {k:Int} {x:ByteArray} (h:isT C i k x=true) (j:k≠0):i<C.ts.length:=by
 rcases Nat.lt_or_ge i C.ts.length with g|g
 ·exact g
 ·simp only[isT,zcT g,Bool.and_eq_true,beq_iff_eq] at h
  exact absurd h.1.symm j
theorem zeJ {C:Cx} {i:Nat} {k:Int} (h:((zf C i).kind==k)=true) (j:k≠0):i<C.ts.length:=by
 rcases Nat.lt_or_ge i C.ts.length with g|g
 ·exact g
 ·simp only[zcT g,beq_iff_eq] at h
  exact absurd h.symm j
theorem zed {C:Cx} {i:Nat} {o:Bool} (h:plainB C i o=true):i<C.ts.length:=by
 simp only[plainB,Bool.and_eq_true] at h
 exact zeJ h.1 (by decide)
theorem zbh {C:Cx} {k:Int} {x:ByteArray} {q q':PS} (h:zd C k x q= .ok q'):q'=adv q∧isT C q.pos k x=true:=by
 unfold zd at h
 split at h
 ·next g=>exact⟨by cases h;rfl,g⟩
 ·cases h
theorem zaX {C:Cx} {o:Bool} {q:PS} {y:PS×ByteArray} (h:zk C o q= .ok y):y=(adv q,(zf C q.pos).text)∧plainB C q.pos o=true:=by
 unfold zk at h
 split at h
 ·next g=>exact⟨by cases h;rfl,g⟩
 ·cases h
theorem zbx {C:Cx} {x:Ex} {q q':PS} (h:zJ C x q= .ok q'):q'={q with ex:=q.ex++[x]}∧q.ex.length<300:=by
 unfold zJ at h
 split at h
 ·cases h
 ·cases h
  exact⟨rfl,by omega⟩
theorem zz (q:PS):(adv q).pos=q.pos+1:=rfl
theorem zj2 {C:Cx} {n:ByteArray} {q q':PS} (h:zau C n q= .ok q'):q.pos≤q'.pos:=by
 unfold zau at h
 split at h
 ·obtain⟨a,z,o⟩:=ze h
  obtain⟨b,j,D⟩:=ze z
  obtain⟨rfl,_⟩:=zbh j
  obtain⟨rfl,_⟩:=zbh D
  obtain⟨rfl,_⟩:=zbx o
  show q.pos≤q.pos+1+1
  omega
 ·obtain⟨rfl,_⟩:=zbx h
  exact Nat.le_refl _
theorem zn2 {C:Cx} {n f:ByteArray} {q q':PS} (h:za5 C n f q= .ok q'):q.pos≤q'.pos:=by
 unfold za5 at h
 split at h
 ·obtain⟨a,z,o⟩:=ze h
  obtain⟨b,j,D⟩:=ze z
  obtain⟨rfl,_⟩:=zbh j
  obtain⟨rfl,_⟩:=zbh D
  obtain⟨rfl,_⟩:=zbx o
  show q.pos≤q.pos+1+1
  omega
 ·obtain⟨rfl,_⟩:=zbx h
  exact Nat.le_refl _
theorem zf2 {C:Cx} (f:Nat): ∀(J:NT) (d:Nat) (q q':PS),ev C f J d q= .ok q'→q.pos≤q'.pos:=by
 induction f with
 |zero=>intro J d q q' h;cases J using NT.elim<;>cases h
 |succ f D=>
  intro J d q q' h
  cases J using NT.elim with
  |sum=>
   rw[ev] at h
   obtain⟨a,o,j⟩:=ze h
   exact Nat.le_trans (D _ _ _ _ o) (D _ _ _ _ j)
  |prod=>
   rw[ev] at h
   obtain⟨a,o,j⟩:=ze h
   exact Nat.le_trans (D _ _ _ _ o) (D _ _ _ _ j)
  |sumT=>
   rw[ev] at h
   split at h
   ·obtain⟨a,o,j⟩:=ze h
    obtain⟨b,H,I⟩:=ze o
    obtain⟨rfl,_⟩:=zbx I
    have E:=D _ _ _ _ H
    have K:=D _ _ _ _ j
    rw[zz] at E
    exact Nat.le_trans (by omega:q.pos≤b.pos) K
   ·cases h
    exact Nat.le_refl _
  |prodT=>
   rw[ev] at h
   split at h
   ·obtain⟨a,o,j⟩:=ze h
    obtain⟨b,H,I⟩:=ze o
    obtain⟨rfl,_⟩:=zbx I
    have E:=D _ _ _ _ H
    have K:=D _ _ _ _ j
    rw[zz] at E
    exact Nat.le_trans (by omega:q.pos≤b.pos) K
   ·cases h
    exact Nat.le_refl _
  |part=>
   rw[ev] at h
   split at h
   ·obtain⟨rfl,_⟩:=zbx h
    show q.pos≤q.pos+1
    omega
   ·split at h
    ·split at h
     ·cases h
     ·obtain⟨a,o,j⟩:=ze h
      obtain⟨rfl,_⟩:=zbh j
      have E:=D _ _ _ _ o
      rw[zz] at E ⊢
      omega
    ·split at h
     ·have:=zj2 h
      rw[zz] at this
      omega
     ·obtain⟨y,o,j⟩:=ze h
      obtain⟨rfl,_⟩:=zaX o
      simp only at j
      split at j
      ·obtain⟨z,H,I⟩:=ze j
       obtain⟨rfl,_⟩:=zaX H
       have:=zn2 I
       simp only[zz] at this
       omega
      ·have:=zj2 j
       rw[zz] at this
       omega
theorem zn3 {C:Cx} (f:Nat): ∀(g:Nat) (o:NT) (d:Nat) (q:PS),nd C o q≤f→nd C o q≤g→ev C f o d q=ev C g o d q:=by
 induction f with
 |zero=>intro g o d q h;unfold nd at h;cases o using NT.elim<;>simp at h
 |succ f j=>
  intro g o d q H D
  obtain⟨g,rfl⟩: ∃L,g=L+1:=by
   match g with
   |0=>unfold nd at D;cases o using NT.elim<;>simp at D
   |g+1=>exact⟨g,rfl⟩
  cases o using NT.elim with
  |sum=>
   simp only[nd] at H D
   rw[ev,ev,j g .prod d q (by simp only[nd];omega) (by simp only[nd];omega)]
   refine zaf fun a z=>?_
   have:=zf2 _ _ _ _ _ z
   exact j g .sumT d a (by simp only[nd];omega) (by simp only[nd];omega)
  |prod=>
   simp only[nd] at H D
   rw[ev,ev,j g .part d q (by simp only[nd];omega) (by simp only[nd];omega)]
   refine zaf fun a z=>?_
   have:=zf2 _ _ _ _ _ z
   exact j g .prodT d a (by simp only[nd];omega) (by simp only[nd];omega)
  |sumT=>
   simp only[nd] at H D
   rw[ev,ev]
   split
   ·next E=>
    have I:q.pos<C.ts.length:=by
     rw[Bool.or_eq_true] at E
     exact E.elim (fun k=>za1 k (by decide)) fun k=>za1 k (by decide)
    rw[j g .prod d (adv q) (by simp only[nd,zz];omega) (by simp only[nd,zz];omega)]
    refine zaf fun a z=>?_
    obtain⟨b,J,K⟩:=ze z
    obtain⟨rfl,_⟩:=zbx K
    have:=zf2 _ _ _ _ _ J
    rw[zz] at this
    exact j g .sumT d _ (by simp only[nd];omega) (by simp only[nd];omega)
   ·rfl
  |prodT=>
   simp only[nd] at H D
   rw[ev,ev]
   split
   ·next E=>
    have I:q.pos<C.ts.length:=za1 E (by decide)
    rw[j g .part d (adv q) (by simp only[nd,zz];omega) (by simp only[nd,zz];omega)]
    refine zaf fun a z=>?_
    obtain⟨b,J,K⟩:=ze z
    obtain⟨rfl,_⟩:=zbx K
    have:=zf2 _ _ _ _ _ J
    rw[zz] at this
    exact j g .prodT d _ (by simp only[nd];omega) (by simp only[nd];omega)
   ·rfl
  |part=>
   simp only[nd] at H D
   rw[ev,ev]
   split
   ·rfl
   ·split
    ·next E=>
     have I:q.pos<C.ts.length:=za1 E (by decide)
     split
     ·rfl
     ·rw[j g .sum (d+1) (adv q) (by simp only[nd,zz];omega) (by simp only[nd,zz];omega)]
    ·rfl
theorem zcU {C:Cx} {f d:Nat} {j:NT} {q:PS} (h:nd C j q≤f):ev C f j d q=pE C j d q:=zn3 f _ j d q h (Nat.le_refl _)
theorem zbr {C:Cx} {j:NT} {d:Nat} {q q':PS} (h:pE C j d q= .ok q'):q.pos≤q'.pos:=zf2 _ _ _ _ _ h
theorem zf3 {C:Cx} {j:NT} {d:Nat} {q:PS}:pE C j d q=ev C (nd C j q+1) j d q:=(zcU (Nat.le_succ _)).symm
theorem zh9 (C:Cx) (d:Nat) (q:PS):pE C .sum d q=bd (pE C .prod d q) (pE C .sumT d):=by
 rw[zf3,ev,zcU (by simp only[nd];omega)]
 refine zaf fun a j=>?_
 have:=zbr j
 exact zcU (by simp only[nd];omega)
theorem zf4 (C:Cx) (d:Nat) (q:PS):pE C .prod d q=bd (pE C .part d q) (pE C .prodT d):=by
 rw[zf3,ev,zcU (by simp only[nd];omega)]
 refine zaf fun a j=>?_
 have:=zbr j
 exact zcU (by simp only[nd];omega)
theorem zee (C:Cx) (d:Nat) (q:PS):pE C .sumT d q=
  if isT C q.pos 4 zbq||isT C q.pos 4 zaI then
   bd (bd (pE C .prod d (adv q)) fun q'=>zJ C ⟨zbw C q.pos,0,sNone,sNone,(q.ex.length:Int)-1,(q'.ex.length:Int)-1⟩ q') (pE C .sumT d)
  else .ok q:=by
 rw[zf3,ev]
 split
 ·next j=>
  have E:q.pos<C.ts.length:=by
   rw[Bool.or_eq_true] at j
   exact j.elim (fun k=>za1 k (by decide)) fun k=>za1 k (by decide)
  rw[zcU (by simp only[nd,zz];omega)]
  refine zaf fun a o=>?_
  obtain⟨b,D,z⟩:=ze o
  obtain⟨rfl,_⟩:=zbx z
  have:=zbr D
  rw[zz] at this
  exact zcU (by simp only[nd];omega)
 ·rfl
theorem zeK (C:Cx) (d:Nat) (q:PS):pE C .prodT d q=
  if isT C q.pos 4 zp then
   bd (bd (pE C .part d (adv q)) fun q'=>zJ C ⟨8,0,sNone,sNone,(q.ex.length:Int)-1,(q'.ex.length:Int)-1⟩ q') (pE C .prodT d)
  else .ok q:=by
 rw[zf3,ev]
 split
 ·next D=>
  have E:q.pos<C.ts.length:=za1 D (by decide)
  rw[zcU (by simp only[nd,zz];omega)]
  refine zaf fun a j=>?_
  obtain⟨b,z,o⟩:=ze j
  obtain⟨rfl,_⟩:=zbx o
  have:=zbr z
  rw[zz] at this
  exact zcU (by simp only[nd];omega)
 ·rfl
theorem zby (C:Cx) (d:Nat) (q:PS):pE C .part d q=
  if (zf C q.pos).kind==2 then zJ C ⟨1,(zf C q.pos).num,sNone,sNone,0,0⟩ (adv q)
  else if isT C q.pos 4 cOpen then
   if 20≤d then .error (zu C q.pos) else bd (pE C .sum (d+1) (adv q)) (zd C 4 zU)
  else if C.scr&&isT C q.pos 1 sUndef then zau C sUndef (adv q)
  else bd (zk C false q) fun x=>if isT C x.1.pos 4 cPoint then bd (zk C true (adv x.1)) fun y=>za5 C x.2 y.2 y.1 else zau C x.2 x.1:=by
 rw[zf3,ev]
 split
 ·rfl
 ·split
  ·next j=>
   have o:q.pos<C.ts.length:=za1 j (by decide)
   split
   ·rfl
   ·rw[zcU (by simp only[nd,zz];omega)]
  ·rfl
structure Md where
 rq:List ByteArray
 im:List Im
 ep:List Ep
 st:List Sm
 ex:List Ex
def zaS (q:PS):Md:=⟨q.rq,q.im,q.ep++q.la,q.st,q.ex⟩
def zA (k:Int):Bool:=k==6||k==7
def zO (k:Int):Bool:=k==6||k==7||k==8
def zn:Ex:=⟨0,0,sNone,sNone,0,0⟩
abbrev cParens:ByteArray:={data:=#[40,41]}
abbrev tPlus:ByteArray:={data:=#[32,43,32]}
abbrev tMinus:ByteArray:={data:=#[32,45,32]}
abbrev tStar:ByteArray:={data:=#[32,42,32]}
def zai (b:Bool) (t:ByteArray):ByteArray:=if b then cOpen++t++zU else t
def prE (ex:List Ex):Nat→Nat→ByteArray
 |0,_=>sNone
 |f+1,i=>
  let x:=ex.getD i zn
  if x.kind==1 then strOfNums (zaN x.num)
  else if x.kind==2 then x.name
  else if x.kind==3 then x.name++cParens
  else if x.kind==4 then x.name++cPoint++x.field
  else if x.kind==5 then x.name++cPoint++x.field++cParens
  else if x.kind==6 then prE ex f x.l.toNat++tPlus++zai (zA (ex.getD x.r.toNat zn).kind) (prE ex f x.r.toNat)
  else if x.kind==7 then prE ex f x.l.toNat++tMinus++zai (zA (ex.getD x.r.toNat zn).kind) (prE ex f x.r.toNat)
  else if x.kind==8 then zai (zA (ex.getD x.l.toNat zn).kind) (prE ex f x.l.toNat)++tStar++zai (zO (ex.getD x.r.toNat zn).kind) (prE ex f x.r.toNat)
  else sNone
def prX (ex:List Ex) (i:Nat):ByteArray:=prE ex (i+1) i
def zdx (ex:List Ex):Prop:=∀(i:Nat) (x:Ex),ex[i]? =some x→zO x.kind=true→0≤x.l∧x.l<(i:Int)∧0≤x.r∧x.r<(i:Int)
theorem zcc {k:Int} (h:(k==6)=true∨(k==7)=true∨(k==8)=true):zO k=true:=by
 unfold zO
 rcases h with h|h|h<;>simp[h]
theorem zhA {ex:List Ex} (h:zdx ex) {i:Nat} (j:zO (ex.getD i zn).kind=true):0≤(ex.getD i zn).l∧(ex.getD i zn).l<(i:Int)∧0≤(ex.getD i zn).r∧(ex.getD i zn).r<(i:Int):=by
 by_cases o:i<ex.length
 ·have e:ex.getD i zn=ex[i]:=by simp[List.getD,List.getElem?_eq_getElem o]
  rw[e] at j ⊢
  exact h i _ (List.getElem?_eq_getElem o) j
 ·have e:ex.getD i zn=zn:=by simp[List.getD,List.getElem?_eq_none (by omega:ex.length≤i)]
  rw[e] at j
  exact absurd j (by decide)
theorem zj3 {ex:List Ex} (h:zdx ex) (f:Nat): ∀(g i:Nat),i<f→i<g→prE ex f i=prE ex g i:=by
 induction f with
 |zero=>intro g i M;omega
 |succ f H=>
  intro g i L K
  obtain⟨g,rfl⟩: ∃J,g=J+1:=⟨g-1,by omega⟩
  rw[prE,prE]
  have I:=fun o=>zhA h (i:=i) o
  generalize ex.getD i zn=x at I ⊢
  have j: ∀o:zO x.kind=true,prE ex f x.l.toNat=prE ex g x.l.toNat∧prE ex f x.r.toNat=prE ex g x.r.toNat:=fun o=>by
   have:=I o
   exact⟨H g _ (by omega) (by omega),H g _ (by omega) (by omega)⟩
  by_cases D:(x.kind==6)=true
  ·rw[(j (zcc (.inl D))).1,(j (zcc (.inl D))).2]
  ·by_cases E:(x.kind==7)=true
   ·rw[(j (zcc (.inr (.inl E)))).1,(j (zcc (.inr (.inl E)))).2]
   ·by_cases z:(x.kind==8)=true
    ·rw[(j (zcc (.inr (.inr z)))).1,(j (zcc (.inr (.inr z)))).2]
    ·simp only[D,E,z,Bool.false_eq_true,↓reduceIte]
theorem zj4 {ex:List Ex} (h:zdx ex) (i:Nat):prX ex i=
  if (ex.getD i zn).kind==1 then strOfNums (zaN (ex.getD i zn).num)
  else if (ex.getD i zn).kind==2 then (ex.getD i zn).name
  else if (ex.getD i zn).kind==3 then (ex.getD i zn).name++cParens
  else if (ex.getD i zn).kind==4 then (ex.getD i zn).name++cPoint++(ex.getD i zn).field
  else if (ex.getD i zn).kind==5 then (ex.getD i zn).name++cPoint++(ex.getD i zn).field++cParens
  else if (ex.getD i zn).kind==6 then prX ex (ex.getD i zn).l.toNat++tPlus++zai (zA (ex.getD (ex.getD i zn).r.toNat zn).kind) (prX ex (ex.getD i zn).r.toNat)
  else if (ex.getD i zn).kind==7 then prX ex (ex.getD i zn).l.toNat++tMinus++zai (zA (ex.getD (ex.getD i zn).r.toNat zn).kind) (prX ex (ex.getD i zn).r.toNat)
  else if (ex.getD i zn).kind==8 then zai (zA (ex.getD (ex.getD i zn).l.toNat zn).kind) (prX ex (ex.getD i zn).l.toNat)++tStar++zai (zO (ex.getD (ex.getD i zn).r.toNat zn).kind) (prX ex (ex.getD i zn).r.toNat)
  else sNone:=by
 rw[prX,prE]
 have H:=fun o=>zhA h (i:=i) o
 generalize ex.getD i zn=x at H ⊢
 have j: ∀o:zO x.kind=true,prE ex i x.l.toNat=prX ex x.l.toNat∧prE ex i x.r.toNat=prX ex x.r.toNat:=fun o=>by
  have:=H o
  exact⟨zj3 h _ _ _ (by omega) (by omega),zj3 h _ _ _ (by omega) (by omega)⟩
 by_cases D:(x.kind==6)=true
 ·rw[(j (zcc (.inl D))).1,(j (zcc (.inl D))).2]
 ·by_cases E:(x.kind==7)=true
  ·rw[(j (zcc (.inr (.inl E)))).1,(j (zcc (.inr (.inl E)))).2]
  ·by_cases z:(x.kind==8)=true
   ·rw[(j (zcc (.inr (.inr z)))).1,(j (zcc (.inr (.inr z)))).2]
   ·simp only[D,E,z,Bool.false_eq_true,↓reduceIte]
def zZ (ex:List Ex) (k:Int):Nat:=(ex.map fun x=>if zO x.kind then (if x.l==k then 1 else 0)+(if x.r==k then 1 else 0) else 0).sum
def za6 (st:List Sm) (k:Int):Nat:=(st.map fun s=>if s.expr==k then 1 else 0).sum
structure Tree (m:Md):Prop where
 ahead:zdx m.ex
 stm: ∀s∈m.st,0≤s.expr∧s.expr<(m.ex.length:Int)
 once: ∀k,k<m.ex.length→zZ m.ex (k:Int)+za6 m.st (k:Int)=1
def sm (k:Nat) (f:Nat→Nat):Nat:=((List.range k).map f).sum
theorem zn4 (f:Nat→Nat):sm 0 f=0:=rfl
theorem zdL (k:Nat) (f:Nat→Nat):sm (k+1) f=sm k f+f k:=by
 unfold sm
 rw[List.range_succ,List.map_append,List.sum_append]
 simp
theorem zhB (k:Nat) (f g:Nat→Nat):sm k (fun j=>f j+g j)=sm k f+sm k g:=by
 induction k with
 |zero=>rfl
 |succ k o=>rw[zdL,zdL,zdL,o];omega
theorem zef {k:Nat} {f g:Nat→Nat} (h: ∀j,j<k→f j=g j):sm k f=sm k g:=by
 induction k with
 |zero=>rfl
 |succ k o=>rw[zdL,zdL,o fun j z=>h j (by omega),h k (by omega)]
theorem zhC (k:Nat):sm k (fun _=>0)=0:=by
 induction k with
 |zero=>rfl
 |succ k j=>rw[zdL,j]
theorem zhD (f:Nat→Nat) (k:Nat) (l:Int) (E:0≤l) (h:l<(k:Int)):sm k (fun j=>(if l==(j:Int) then 1 else 0)*f j)=f l.toNat:=by
 induction k with
 |zero=>omega
 |succ k o=>
  rw[zdL]
  by_cases e:l=(k:Int)
  ·have z:sm k (fun j=>(if l==(j:Int) then 1 else 0)*f j)=0:=(zef (g:=fun _=>0) fun j D=>by rw[if_neg (by rw[beq_iff_eq];omega)];omega).trans (zhC k)
   rw[z,if_pos (by rw[beq_iff_eq];exact e),show l.toNat=k from by omega]
   omega
  ·rw[o (by omega),if_neg (by rw[beq_iff_eq];exact e)]
   omega
def u1 (x:Ex) (k:Int):Nat:=if zO x.kind then (if x.l==k then 1 else 0)+(if x.r==k then 1 else 0) else 0
theorem zj5 {ex:List Ex} {i:Nat} (j:i<ex.length) (k:Int):zZ (ex.drop i) k=u1 ex[i] k+zZ (ex.drop (i+1)) k:=by
 rw[List.drop_eq_getElem_cons j,zZ,List.map_cons,List.sum_cons]
 rfl
theorem zn5 {ex:List Ex} {i:Nat} (j:ex.length≤i) (k:Int):zZ (ex.drop i) k=0:=by rw[List.drop_eq_nil_of_le j];rfl
theorem zn6 {ex:List Ex} (h:zdx ex) (k:Nat) (E:k<ex.length): ∀d j,j+d=k+1→zZ (ex.drop j) (k:Int)=zZ (ex.drop (k+1)) (k:Int):=by
 intro d
 induction d with
 |zero=>intro j z;rw[show j=k+1 from by omega]
 |succ d o=>
  intro j z
  rw[zj5 (by omega),o (j+1) (by omega)]
  have:u1 ex[j] (k:Int)=0:=by
   unfold u1
   split
   ·next D=>
    have:=h j _ (List.getElem?_eq_getElem (by omega)) D
    rw[if_neg (by rw[beq_iff_eq];omega),if_neg (by rw[beq_iff_eq];omega)]
   ·rfl
  omega
def wt (ex:List Ex) (i:Nat):Nat:=(prX ex i).size
def zeg (x:Ex):Nat:=x.name.size+x.field.size+40
theorem zgw (b:Bool) (t:ByteArray):(zai b t).size≤t.size+2:=by
 unfold zai
 split
 ·rw[ByteArray.size_append,ByteArray.size_append]
  show 1+t.size+1≤t.size+2
  omega
 ·omega
theorem zgx (n:Int) (j: -9223372036854775808≤n) (o:n≤9223372036854775807):(strOfNums (zaN n)).size≤21:=by
 rw[strOfNums_size]
 by_cases h:n<0
 ·rw[zh7 h,List.length_cons,zcm]
  have:=(zcS (-n) (by omega) (by omega)).2.1
  omega
 ·rw[zgv (by omega),zcm]
  have:=(zcS n (by omega) (by omega)).2.1
  omega
theorem zn7 {ex:List Ex} (h:zdx ex) (i:Nat) (j: -9223372036854775808≤(ex.getD i zn).num∧(ex.getD i zn).num≤9223372036854775807):
  wt ex i≤zeg (ex.getD i zn)+if zO (ex.getD i zn).kind then wt ex (ex.getD i zn).l.toNat+wt ex (ex.getD i zn).r.toNat else 0:=by
 unfold wt
 rw[zj4 h]
 generalize ex.getD i zn=x at j ⊢
 unfold zeg
 by_cases K:(x.kind==1)=true
 ·rw[if_pos K]
  have:=zgx x.num j.1 j.2
  omega
 ·rw[if_neg K]
  by_cases I:(x.kind==2)=true
  ·rw[if_pos I];omega
  ·rw[if_neg I]
   by_cases H:(x.kind==3)=true
   ·rw[if_pos H,ByteArray.size_append]
    have:cParens.size=2:=rfl
    omega
   ·rw[if_neg H]
    by_cases E:(x.kind==4)=true
    ·rw[if_pos E,ByteArray.size_append,ByteArray.size_append]
     have:cPoint.size=1:=rfl
     omega
    ·rw[if_neg E]
     by_cases J:(x.kind==5)=true
     ·rw[if_pos J,ByteArray.size_append,ByteArray.size_append,ByteArray.size_append]
      have:cPoint.size=1:=rfl
      have:cParens.size=2:=rfl
      omega
     ·rw[if_neg J]
      by_cases z:(x.kind==6)=true
      ·rw[if_pos z,if_pos (zcc (.inl z)),ByteArray.size_append,ByteArray.size_append]
       have:=zgw (zA (ex.getD x.r.toNat zn).kind) (prX ex x.r.toNat)
       have:tPlus.size=3:=rfl
       omega
      ·rw[if_neg z]
       by_cases D:(x.kind==7)=true
       ·rw[if_pos D,if_pos (zcc (.inr (.inl D))),ByteArray.size_append,ByteArray.size_append]
        have:=zgw (zA (ex.getD x.r.toNat zn).kind) (prX ex x.r.toNat)
        have:tMinus.size=3:=rfl
        omega
       ·rw[if_neg D]
        by_cases o:(x.kind==8)=true
        ·rw[if_pos o,if_pos (zcc (.inr (.inr o))),ByteArray.size_append,ByteArray.size_append]
         have:=zgw (zA (ex.getD x.l.toNat zn).kind) (prX ex x.l.toNat)
         have:=zgw (zO (ex.getD x.r.toNat zn).kind) (prX ex x.r.toNat)
         have:tStar.size=3:=rfl
         omega
        ·rw[if_neg o]
         show 0≤_
         omega
def zeL (ex:List Ex):Prop:=∀x∈ex,-9223372036854775808≤x.num∧x.num≤9223372036854775807
theorem zf5 {ex:List Ex} {i:Nat} (j:i<ex.length):ex.getD i zn=ex[i]:=by simp[List.getD,List.getElem?_eq_getElem j]
theorem zn8 (f:Nat→Nat) (n:Nat): ∀o:List Sm,(∀s∈o,0≤s.expr∧s.expr<(n:Int))→(o.map fun s=>f s.expr.toNat).sum=sm n (fun j=>za6 o (j:Int)*f j):=by
 intro o
 induction o with
 |nil=>intro _;show 0=_;rw[←zhC n];exact zef fun j _=>by simp[za6]
 |cons s o D=>
  intro h
  rw[List.map_cons,List.sum_cons,D fun x E=>h x (List.mem_cons_of_mem _ E)]
  have z:=h s List.mem_cons_self
  rw[←zhD f n s.expr z.1 z.2,←zhB]
  refine zef fun j _=>?_
  simp only[za6,List.map_cons,List.sum_cons]
  rw[Nat.add_mul]
theorem zn9 {m:Md} (t:Tree m) (E:zeL m.ex): ∀d k,k+d=m.ex.length→
  (m.st.map fun s=>wt m.ex s.expr.toNat).sum≤sm k (fun j=>(za6 m.st (j:Int)+zZ (m.ex.drop k) (j:Int))*wt m.ex j)+((m.ex.drop k).map zeg).sum:=by
 intro d
 induction d with
 |zero=>
  intro k K
  have:k=m.ex.length:=by omega
  subst this
  rw[zn8 _ _ _ t.stm]
  refine Nat.le_trans (Nat.le_of_eq ?_) (Nat.le_add_right _ _)
  refine zef fun j _=>?_
  rw[zn5 (Nat.le_refl _),Nat.add_zero]
 |succ d H=>
  intro k K
  have o:k<m.ex.length:=by omega
  refine Nat.le_trans (H (k+1) (by omega)) ?_
  have M:za6 m.st (k:Int)+zZ (m.ex.drop (k+1)) (k:Int)=1:=by
   have:=t.once k o
   rw[←zn6 t.ahead k o (k+1) 0 (by omega),List.drop_zero]
   omega
  rw[zdL,M,Nat.one_mul,List.drop_eq_getElem_cons o,List.map_cons,List.sum_cons]
  have L:=zn7 t.ahead k (by rw[zf5 o];exact E _ (List.getElem_mem o))
  rw[zf5 o] at L
  have J:sm k (fun j=>(za6 m.st (j:Int)+zZ (m.ex.drop k) (j:Int))*wt m.ex j)=sm k (fun j=>(za6 m.st (j:Int)+zZ (m.ex.drop (k+1)) (j:Int))*wt m.ex j)+if zO m.ex[k].kind then wt m.ex m.ex[k].l.toNat+wt m.ex m.ex[k].r.toNat else 0:=by
   have e: ∀j:Nat,(za6 m.st (j:Int)+zZ (m.ex.drop k) (j:Int))*wt m.ex j=(za6 m.st (j:Int)+zZ (m.ex.drop (k+1)) (j:Int))*wt m.ex j+u1 m.ex[k] (j:Int)*wt m.ex j:=fun j=>by
    rw[zj5 o,←Nat.add_mul]
    congr 1
    omega
   rw[zef fun j _=>e j,zhB]
   congr 1
   split
   ·next D=>
    have z:=t.ahead k _ (List.getElem?_eq_getElem o) D
    rw[←zhD (wt m.ex) k _ z.1 z.2.1,←zhD (wt m.ex) k _ z.2.2.1 z.2.2.2,←zhB]
    refine zef fun j _=>?_
    rw[u1,if_pos D,Nat.add_mul]
   ·next D=>
    rw[←zhC k]
    refine zef fun j _=>?_
    rw[u1,if_neg D,Nat.zero_mul]
  have I:zZ (m.ex[k]::m.ex.drop (k+1))=zZ (m.ex.drop k):=by rw[←List.drop_eq_getElem_cons o]
  rw[I,J]
  omega
theorem znA {m:Md} (t:Tree m) (j:zeL m.ex):(m.st.map fun s=>wt m.ex s.expr.toNat).sum≤(m.ex.map zeg).sum:=by
 have:=zn9 t j m.ex.length 0 (by omega)
 rw[zn4,Nat.zero_add,List.drop_zero] at this
 exact this
def zdM (S:Src) (g N:Nat) (w:World) (e:Ending) (w':World):Prop:=∃x q',e= .returned (.string x)∧x.size≤N∧zae 83 S w' g q'∧w.grownBy w' (some g)
theorem znB (w:World) (o:Obj) (r:Option Nat):w.grownBy (w.alloc o) r:=⟨rfl,rfl,rfl,by rw[zW];omega,fun k j _=>heap_alloc_old w o j⟩
theorem znC {S:Src} {w:World} {g:Nat} {q:Nat×Int} (h:zae 83 S w g q) (o:Obj):zae 83 S (w.alloc o) g q:=zdt h ((Below.refl w.heap.size w).alloc (Nat.le_refl _) _) (zdW h)
theorem zbR (S:Src) (H:S.ok) (g:Nat) (q:Nat×Int) (N:Nat) (l:List ByteArray) (w:World) (D:zae 83 S w g q) (L:1≤l.length) (K:l.length≤1000) (M: ∀x∈l,x.size≤N):
  Calls Tryz.prog 34 #[.pointer (some ⟨g,0,none⟩),.slice (some ⟨w.heap.size,0,none⟩) l.length l.length] (w.alloc (.cells (l.map Value.string).toArray 9)) (zdM S g N w):=by
 have O:=zdW D
 refine (znj S H g q w.heap.size l.length N _ (znC D _) L K (by rw[zW];omega) (by omega) ?_).mono ?_
 ·intro j E
  rw[World.cell?_alloc_new]
  refine⟨l[j],?_,M _ (List.getElem_mem E)⟩
  simp[List.getElem?_eq_getElem E]
 ·rintro e Q ⟨x,I,rfl,J,o,z⟩
  exact⟨x,I,rfl,J,o,zN (znB w _ _) z⟩
theorem zhE (S:Src) (V:S.ok) (g:Nat) (scr:Bool) (d N:Nat) (hd:d≤2) (hN:N≤100000) (ih:0<d→∀(q:Nat×Int) (w:World),zae 83 S w g q→Calls Tryz.prog 78 #[.pointer (some ⟨g,0,none⟩),.int .i64 ((d:Int)-1),.bool scr] w (zdM S g N w))
  (q0:Nat×Int) (w0:World) (j:zae 83 S w0 g q0):Calls Tryz.prog 78 #[.pointer (some ⟨g,0,none⟩),.int .i64 (d:Int),.bool scr] w0 (zdM S g (2*N+110) w0):=by
 have ae:=zc j
 have af:Hid (w0.grownBy w0 (some g)):=⟨rfl,rfl,rfl,Nat.le_refl _,fun _ _ _=>rfl⟩
 have IH:=zc ih
 clear j ih
 go_enter Tryz.func78,Tryz.ntmps78
 go_wp2_with fail
 refine (zbR S V g _ 100 [{data:=#[97]},{data:=#[98]},{data:=#[120]},{data:=#[102]},{data:=#[103]},{data:=#[110]},{data:=#[100]}] _ ae.out (by simp) (by simp) (by intro x L;simp only[List.mem_cons,List.not_mem_nil,or_false] at L;rcases L with rfl|rfl|rfl|rfl|rfl|rfl|rfl<;>decide)).mono ?_
 rintro e w1 ⟨x1,q1,rfl,z1,j,o⟩
 have ah:=zc j
 have ag:=zc (zN af.out o)
 clear j o
 go_wp2_with fail
 refine (zbI S V g _ 9 _ ah.out (by omega)).mono ?_
 rintro e w2 ⟨rfl,j,o⟩
 have O:=zcB S q1 9 (by omega)
 obtain⟨k2,hk⟩: ∃k:Nat,(bw S q1 9).1=k:=⟨(bw S q1 9).1.toNat,by omega⟩
 obtain⟨K,M⟩: ∃X,(bw S q1 9).2=X:=⟨_,rfl⟩
 rw[hk] at O ⊢
 rw[M] at j
 have E:=zc j
 have H:=zc (zN ag.out o)
 clear j o
 have aj:k2<9:=by omega
 clear O hk M
 have ac:True:=trivial
 clear ac
 rcases (show k2=0∨k2=1∨k2=2∨k2=3∨k2=4∨k2=5∨k2=6∨k2=7∨k2=8 by omega) with rfl|rfl|rfl|rfl|rfl|rfl|rfl|rfl|rfl
 ·go_wp2_with fail
  refine (zbI S V g _ 9 _ E.out (by omega)).mono ?_
  rintro e w3 ⟨rfl,j,o⟩
  have O:=zcB S K 9 (by omega)
  obtain⟨k3,hk⟩: ∃k:Nat,(bw S K 9).1=k:=⟨(bw S K 9).1.toNat,by omega⟩
  obtain⟨Q,M⟩: ∃X,(bw S K 9).2=X:=⟨_,rfl⟩
  rw[hk] at O ⊢
  rw[M] at j
  have z:=zc j
  have D:=zc (zN H.out o)
  clear j o
  have ai:k3<9:=by omega
  clear O hk M
  go_wp2_with fail
  refine (zh8 (k3:Int) _ (by omega)).mono ?_
  rintro e w4 ⟨rfl,hb⟩
  have J:=zc (zdt z.out hb (zdW z.out))
  have I:=zc (zdH D.out hb D.out.size)
  have hz:=zgx (k3:Int) (by omega) (by omega)
  clear hb
  go_wp2
  go_ret
  exact⟨_,Q,rfl,by omega,J.out,I.out⟩
 ·go_wp2_with fail
  refine (zbI S V g _ 9 _ E.out (by omega)).mono ?_
  rintro e w3 ⟨rfl,j,o⟩
  have O:=zcB S K 9 (by omega)
  obtain⟨k3,hk⟩: ∃k:Nat,(bw S K 9).1=k:=⟨(bw S K 9).1.toNat,by omega⟩
  obtain⟨Q,M⟩: ∃X,(bw S K 9).2=X:=⟨_,rfl⟩
  rw[hk] at O ⊢
  rw[M] at j
  have z:=zc j
  have D:=zc (zN H.out o)
  clear j o
  have ai:k3<9:=by omega
  clear O hk M
  go_wp2_with fail
  refine (zh8 (k3:Int) _ (by omega)).mono ?_
  rintro e w4 ⟨rfl,hb⟩
  have J:=zc (zdt z.out hb (zdW z.out))
  have I:=zc (zdH D.out hb D.out.size)
  have hz:=zgx (k3:Int) (by omega) (by omega)
  clear hb
  go_wp2
  go_ret
  exact⟨_,Q,rfl,by omega,J.out,I.out⟩
 ·go_wp2
  go_ret
  exact⟨_,K,rfl,by have Z:(({data:=#[32,40,32,41]}:ByteArray)).size=4:=rfl;simp only[ByteArray.size_append,Z];omega,E.out,H.out⟩
 ·go_wp2
  go_ret
  exact⟨_,K,rfl,by have Z:(({data:=#[110,32,46,32]}:ByteArray)).size=4:=rfl;simp only[ByteArray.size_append,Z];omega,E.out,H.out⟩
 ·go_wp2
  go_ret
  exact⟨_,K,rfl,by have Z:(({data:=#[110,32,46,32,102,32,40,32,41]}:ByteArray)).size=9:=rfl;omega,E.out,H.out⟩
 ·by_cases U:0<d
  ·go_wp2_with fail
   refine (IH.out U K _ E.out).mono ?_
   rintro e w3 ⟨x3,Q,rfl,z3,j,o⟩
   have z:=zc j
   have D:=zc (zN H.out o)
   clear j o
   go_wp2_with fail
   refine (zbR S V g _ 100 [{data:=#[43]},{data:=#[45]},{data:=#[42]}] _ z.out (by simp) (by simp) (by intro x L;simp only[List.mem_cons,List.not_mem_nil,or_false] at L;rcases L with rfl|rfl|rfl<;>decide)).mono ?_
   rintro e w4 ⟨x4,Y,rfl,z4,j,o⟩
   have J:=zc j
   have I:=zc (zN D.out o)
   clear j o
   go_wp2_with fail
   refine (IH.out U Y _ J.out).mono ?_
   rintro e w5 ⟨x5,q5,rfl,z5,j,o⟩
   have aa:=zc j
   have ab:=zc (zN I.out o)
   clear j o
   go_wp2
   go_ret
   exact⟨_,q5,rfl,by have Z:(({data:=#[32]}:ByteArray)).size=1:=rfl;simp only[ByteArray.size_append,Z];omega,aa.out,ab.out⟩
  ·have ad: ¬0<(d:Int):=by omega
   cases scr with
   |false=>
    go_wp2
    go_ret
    exact⟨_,K,rfl,by omega,E.out,H.out⟩
   |true=>
    go_wp2_with fail
    refine (zdv S V g _ 8 _ E.out (by omega)).mono ?_
    rintro e w3 ⟨rfl,j,o⟩
    obtain⟨Q,M⟩: ∃X,(bw S K 8).2=X:=⟨_,rfl⟩
    rw[M] at j
    have z:=zc j
    have D:=zc (zN H.out o)
    clear j o M
    generalize ((bw S K 8).1==0)=b
    cases b with
    |false=>
     go_wp2
     go_ret
     exact⟨_,Q,rfl,by omega,z.out,D.out⟩
    |true=>
     go_wp2_with fail
     refine (zbR S V g _ 100 [{data:=#[117,110,100,101,102]},{data:=#[117,110,100,101,102,32,40,32,41]},{data:=#[97,36,49]},{data:=#[120,36]}] _ z.out (by simp) (by simp) (by intro x L;simp only[List.mem_cons,List.not_mem_nil,or_false] at L;rcases L with rfl|rfl|rfl|rfl<;>decide)).mono ?_
     rintro e w4 ⟨x4,Y,rfl,z4,j,o⟩
     have J:=zc j
     have I:=zc (zN D.out o)
     clear j o
     go_wp2
     go_ret
     exact⟨_,Y,rfl,by omega,J.out,I.out⟩
 ·by_cases U:0<d
  ·go_wp2_with fail
   refine (IH.out U K _ E.out).mono ?_
   rintro e w3 ⟨x3,Q,rfl,z3,j,o⟩
   have z:=zc j
   have D:=zc (zN H.out o)
   clear j o
   go_wp2_with fail
   refine (zbR S V g _ 100 [{data:=#[43]},{data:=#[45]},{data:=#[42]}] _ z.out (by simp) (by simp) (by intro x L;simp only[List.mem_cons,List.not_mem_nil,or_false] at L;rcases L with rfl|rfl|rfl<;>decide)).mono ?_
   rintro e w4 ⟨x4,Y,rfl,z4,j,o⟩
   have J:=zc j
   have I:=zc (zN D.out o)
   clear j o
   go_wp2_with fail
   refine (IH.out U Y _ J.out).mono ?_
   rintro e w5 ⟨x5,q5,rfl,z5,j,o⟩
   have aa:=zc j
   have ab:=zc (zN I.out o)
   clear j o
   go_wp2
   go_ret
   exact⟨_,q5,rfl,by have Z:(({data:=#[32]}:ByteArray)).size=1:=rfl;simp only[ByteArray.size_append,Z];omega,aa.out,ab.out⟩
  ·have ad: ¬0<(d:Int):=by omega
   cases scr with
   |false=>
    go_wp2
    go_ret
    exact⟨_,K,rfl,by omega,E.out,H.out⟩
   |true=>
    go_wp2_with fail
    refine (zdv S V g _ 8 _ E.out (by omega)).mono ?_
    rintro e w3 ⟨rfl,j,o⟩
    obtain⟨Q,M⟩: ∃X,(bw S K 8).2=X:=⟨_,rfl⟩
    rw[M] at j
    have z:=zc j
    have D:=zc (zN H.out o)
    clear j o M
    generalize ((bw S K 8).1==0)=b
    cases b with
    |false=>
     go_wp2
     go_ret
     exact⟨_,Q,rfl,by omega,z.out,D.out⟩
    |true=>
     go_wp2_with fail
     refine (zbR S V g _ 100 [{data:=#[117,110,100,101,102]},{data:=#[117,110,100,101,102,32,40,32,41]},{data:=#[97,36,49]},{data:=#[120,36]}] _ z.out (by simp) (by simp) (by intro x L;simp only[List.mem_cons,List.not_mem_nil,or_false] at L;rcases L with rfl|rfl|rfl|rfl<;>decide)).mono ?_
     rintro e w4 ⟨x4,Y,rfl,z4,j,o⟩
     have J:=zc j
     have I:=zc (zN D.out o)
     clear j o
     go_wp2
     go_ret
     exact⟨_,Y,rfl,by omega,J.out,I.out⟩
 ·by_cases U:0<d
  ·go_wp2_with fail
   refine (IH.out U K _ E.out).mono ?_
   rintro e w3 ⟨x3,Q,rfl,z3,j,o⟩
   have z:=zc j
   have D:=zc (zN H.out o)
   clear j o
   go_wp2
   go_ret
   exact⟨_,Q,rfl,by have Z:(({data:=#[40,32]}:ByteArray)).size=2:=rfl;have y1:(({data:=#[32,41]}:ByteArray)).size=2:=rfl;simp only[ByteArray.size_append,Z,y1];omega,z.out,D.out⟩
  ·have ad: ¬0<(d:Int):=by omega
   cases scr with
   |false=>
    go_wp2
    go_ret
    exact⟨_,K,rfl,by omega,E.out,H.out⟩
   |true=>
    go_wp2_with fail
    refine (zdv S V g _ 8 _ E.out (by omega)).mono ?_
    rintro e w3 ⟨rfl,j,o⟩
    obtain⟨Q,M⟩: ∃X,(bw S K 8).2=X:=⟨_,rfl⟩
    rw[M] at j
    have z:=zc j
    have D:=zc (zN H.out o)
    clear j o M
    generalize ((bw S K 8).1==0)=b
    cases b with
    |false=>
     go_wp2
     go_ret
     exact⟨_,Q,rfl,by omega,z.out,D.out⟩
    |true=>
     go_wp2_with fail
     refine (zbR S V g _ 100 [{data:=#[117,110,100,101,102]},{data:=#[117,110,100,101,102,32,40,32,41]},{data:=#[97,36,49]},{data:=#[120,36]}] _ z.out (by simp) (by simp) (by intro x L;simp only[List.mem_cons,List.not_mem_nil,or_false] at L;rcases L with rfl|rfl|rfl|rfl<;>decide)).mono ?_
     rintro e w4 ⟨x4,Y,rfl,z4,j,o⟩
     have J:=zc j
     have I:=zc (zN D.out o)
     clear j o
     go_wp2
     go_ret
     exact⟨_,Y,rfl,by omega,J.out,I.out⟩
 ·cases scr with
  |false=>
   go_wp2
   go_ret
   exact⟨_,K,rfl,by omega,E.out,H.out⟩
  |true=>
   go_wp2_with fail
   refine (zdv S V g _ 8 _ E.out (by omega)).mono ?_
   rintro e w3 ⟨rfl,j,o⟩
   obtain⟨Q,M⟩: ∃X,(bw S K 8).2=X:=⟨_,rfl⟩
   rw[M] at j
   have z:=zc j
   have D:=zc (zN H.out o)
   clear j o M
   generalize ((bw S K 8).1==0)=b
   cases b with
   |false=>
    go_wp2
    go_ret
    exact⟨_,Q,rfl,by omega,z.out,D.out⟩
   |true=>
    go_wp2_with fail
    refine (zbR S V g _ 100 [{data:=#[117,110,100,101,102]},{data:=#[117,110,100,101,102,32,40,32,41]},{data:=#[97,36,49]},{data:=#[120,36]}] _ z.out (by simp) (by simp) (by intro x L;simp only[List.mem_cons,List.not_mem_nil,or_false] at L;rcases L with rfl|rfl|rfl|rfl<;>decide)).mono ?_
    rintro e w4 ⟨x4,Y,rfl,z4,j,o⟩
    have J:=zc j
    have I:=zc (zN D.out o)
    clear j o
    go_wp2
    go_ret
    exact⟨_,Y,rfl,by omega,J.out,I.out⟩
theorem znD (S:Src) (o:S.ok) (g:Nat) (scr:Bool) (q:Nat×Int) (w:World) (j:zae 83 S w g q):Calls Tryz.prog 78 #[.pointer (some ⟨g,0,none⟩),.int .i64 2,.bool scr] w (zdM S g 770 w):=by
 have z: ∀(q:Nat×Int) (w:World),zae 83 S w g q→Calls Tryz.prog 78 #[.pointer (some ⟨g,0,none⟩),.int .i64 0,.bool scr] w (zdM S g 110 w):=fun q w j=>zhE S o g scr 0 0 (by omega) (by omega) (fun h=>absurd h (Nat.lt_irrefl 0)) q w j
 have D: ∀(q:Nat×Int) (w:World),zae 83 S w g q→Calls Tryz.prog 78 #[.pointer (some ⟨g,0,none⟩),.int .i64 1,.bool scr] w (zdM S g 330 w):=fun q w j=>zhE S o g scr 1 110 (by omega) (by omega) (fun _=>z) q w j
 exact zhE S o g scr 2 330 (by omega) (by omega) (fun _=>D) q w j
theorem znE (S:Src) (Q:S.ok) (g:Nat) (scr:Bool) (q0:Nat×Int) (w0:World) (E:zae 83 S w0 g q0):Calls Tryz.prog 32 #[.pointer (some ⟨g,0,none⟩),.bool scr] w0 (zdM S g 1500 w0):=by
 have ab:=zc E
 have ac:Hid (w0.grownBy w0 (some g)):=⟨rfl,rfl,rfl,Nat.le_refl _,fun _ _ _=>rfl⟩
 clear E
 go_enter Tryz.func32,Tryz.ntmps32
 go_wp2_with fail
 refine (zbR S Q g _ 100 [{data:=#[97]},{data:=#[98]},{data:=#[120]},{data:=#[102]},{data:=#[103]}] _ ab.out (by simp) (by simp) (by intro x N;simp only[List.mem_cons,List.not_mem_nil,or_false] at N;rcases N with rfl|rfl|rfl|rfl|rfl<;>decide)).mono ?_
 rintro e w1 ⟨x1,q1,rfl,z1,E,J⟩
 have ag:=zc E
 have af:=zc (zN ac.out J)
 clear E J
 go_wp2_with fail
 refine (znD S Q g scr q1 _ ag.out).mono ?_
 rintro e w2 ⟨x2,q2,rfl,z2,E,J⟩
 have aa:=zc E
 have ah:=zc (zN af.out J)
 clear E J
 go_wp2_with fail
 refine (zbR S Q g _ 100 [{data:=#[46,47,98]},{data:=#[46,47,99]},{data:=#[46,47,97]},{data:=#[120]},{data:=#[46,47,100]}] _ aa.out (by simp) (by simp) (by intro x N;simp only[List.mem_cons,List.not_mem_nil,or_false] at N;rcases N with rfl|rfl|rfl|rfl|rfl<;>decide)).mono ?_
 rintro e w3 ⟨x3,q3,rfl,z3,E,J⟩
 have ad:=zc E
 have ae:=zc (zN ah.out J)
 clear E J
 go_wp2_with fail
 refine (zbI S Q g _ 16 _ ad.out (by omega)).mono ?_
 rintro e w4 ⟨rfl,E,J⟩
 have Z:=zcB S q3 16 (by omega)
 obtain⟨K,hk⟩: ∃k:Nat,(bw S q3 16).1=k:=⟨(bw S q3 16).1.toNat,by omega⟩
 obtain⟨M,U⟩: ∃q',(bw S q3 16).2=q':=⟨_,rfl⟩
 rw[hk] at Z ⊢
 rw[U] at E
 have D:=zc E
 have z:=zc (zN ae.out J)
 clear E J
 have ai:K<16:=by omega
 clear Z hk U
 cases scr with
 |false=>
  rcases (show K=0∨K=1∨K=2∨K=3∨K=4∨K=5∨K=6∨K=7∨K=8∨K=9∨K=10∨K=11∨K=12∨K=13∨K=14∨K=15 by omega) with rfl|rfl|rfl|rfl|rfl|rfl|rfl|rfl|rfl|rfl|rfl|rfl|rfl|rfl|rfl|rfl
  ·go_wp2
   go_ret
   exact⟨_,M,rfl,by have j:(({data:=#[108,101,116,32]}:ByteArray)).size=4:=rfl;have o:(({data:=#[32,61,32]}:ByteArray)).size=3:=rfl;have L:(({data:=#[59]}:ByteArray)).size=1:=rfl;simp only[ByteArray.size_append,j,o,L];omega,D.out,z.out⟩
  ·go_wp2
   go_ret
   exact⟨_,M,rfl,by have j:(({data:=#[108,101,116,32]}:ByteArray)).size=4:=rfl;have o:(({data:=#[32,61,32]}:ByteArray)).size=3:=rfl;have L:(({data:=#[59]}:ByteArray)).size=1:=rfl;simp only[ByteArray.size_append,j,o,L];omega,D.out,z.out⟩
  ·go_wp2
   go_ret
   exact⟨_,M,rfl,by have j:(({data:=#[108,101,116,32]}:ByteArray)).size=4:=rfl;have o:(({data:=#[32,61,32]}:ByteArray)).size=3:=rfl;have L:(({data:=#[59]}:ByteArray)).size=1:=rfl;simp only[ByteArray.size_append,j,o,L];omega,D.out,z.out⟩
  ·go_wp2_with fail
   refine (zbR S Q g _ 100 [{data:=#[102]},{data:=#[103]}] _ D.out (by simp) (by simp) (by intro x N;simp only[List.mem_cons,List.not_mem_nil,or_false] at N;rcases N with rfl|rfl<;>decide)).mono ?_
   rintro e V ⟨X,O,rfl,Y,E,J⟩
   have H:=zc E
   have I:=zc (zN z.out J)
   clear E J
   go_wp2
   go_ret
   exact⟨_,O,rfl,by have j:(({data:=#[102,117,110,99,116,105,111,110,32]}:ByteArray)).size=9:=rfl;have o:(({data:=#[40,41,32,123,32,114,101,116,117,114,110,32]}:ByteArray)).size=12:=rfl;have L:(({data:=#[59,32,125]}:ByteArray)).size=3:=rfl;simp only[ByteArray.size_append,j,o,L];omega,H.out,I.out⟩
  ·go_wp2
   go_ret
   exact⟨_,M,rfl,by have j:(({data:=#[32,61,32]}:ByteArray)).size=3:=rfl;have o:(({data:=#[59]}:ByteArray)).size=1:=rfl;simp only[ByteArray.size_append,j,o];omega,D.out,z.out⟩
  ·go_wp2
   go_ret
   exact⟨_,M,rfl,by have j:(({data:=#[112,114,105,110,116,40]}:ByteArray)).size=6:=rfl;have o:(({data:=#[41,59]}:ByteArray)).size=2:=rfl;simp only[ByteArray.size_append,j,o];omega,D.out,z.out⟩
  ·go_wp2
   go_ret
   exact⟨_,M,rfl,by have j:(({data:=#[112,114,105,110,116,40]}:ByteArray)).size=6:=rfl;have o:(({data:=#[41,59]}:ByteArray)).size=2:=rfl;simp only[ByteArray.size_append,j,o];omega,D.out,z.out⟩
  ·go_wp2
   go_ret
   exact⟨_,M,rfl,by have j:(({data:=#[116,104,114,111,119,32]}:ByteArray)).size=6:=rfl;have o:(({data:=#[59]}:ByteArray)).size=1:=rfl;simp only[ByteArray.size_append,j,o];omega,D.out,z.out⟩
  ·go_wp2_with fail
   refine (zbR S Q g _ 100 [{data:=#[]},{data:=#[32,97,115,32,120]},{data:=#[32,97,115,32,98,44,32,103]}] _ D.out (by simp) (by simp) (by intro x N;simp only[List.mem_cons,List.not_mem_nil,or_false] at N;rcases N with rfl|rfl|rfl<;>decide)).mono ?_
   rintro e V ⟨X,O,rfl,Y,E,J⟩
   have H:=zc E
   have I:=zc (zN z.out J)
   clear E J
   go_wp2
   go_ret
   exact⟨_,O,rfl,by have j:(({data:=#[105,109,112,111,114,116,32,123,32]}:ByteArray)).size=9:=rfl;have o:(({data:=#[32,125,32,102,114,111,109,32,34]}:ByteArray)).size=9:=rfl;have L:(({data:=#[34,59]}:ByteArray)).size=2:=rfl;simp only[ByteArray.size_append,j,o,L];omega,H.out,I.out⟩
  ·go_wp2
   go_ret
   exact⟨_,M,rfl,by have j:(({data:=#[105,109,112,111,114,116,32,42,32,97,115,32,110,32,102,114,111,109,32,34]}:ByteArray)).size=20:=rfl;have o:(({data:=#[34,59]}:ByteArray)).size=2:=rfl;simp only[ByteArray.size_append,j,o];omega,D.out,z.out⟩
  ·go_wp2
   go_ret
   exact⟨_,M,rfl,by have j:(({data:=#[105,109,112,111,114,116,32,100,32,102,114,111,109,32,34]}:ByteArray)).size=15:=rfl;have o:(({data:=#[34,59]}:ByteArray)).size=2:=rfl;simp only[ByteArray.size_append,j,o];omega,D.out,z.out⟩
  ·go_wp2_with fail
   refine (zbR S Q g _ 100 [{data:=#[]},{data:=#[32,97,115,32,121]},{data:=#[32,97,115,32,100,101,102,97,117,108,116]}] _ D.out (by simp) (by simp) (by intro x N;simp only[List.mem_cons,List.not_mem_nil,or_false] at N;rcases N with rfl|rfl|rfl<;>decide)).mono ?_
   rintro e V ⟨X,O,rfl,Y,E,J⟩
   have H:=zc E
   have I:=zc (zN z.out J)
   clear E J
   go_wp2
   go_ret
   exact⟨_,O,rfl,by have j:(({data:=#[101,120,112,111,114,116,32,123,32]}:ByteArray)).size=9:=rfl;have o:(({data:=#[32,125,59]}:ByteArray)).size=3:=rfl;simp only[ByteArray.size_append,j,o];omega,H.out,I.out⟩
  ·go_wp2_with fail
   refine (zbR S Q g _ 100 [{data:=#[]},{data:=#[32,97,115,32,121]},{data:=#[44,32,100,101,102,97,117,108,116]}] _ D.out (by simp) (by simp) (by intro x N;simp only[List.mem_cons,List.not_mem_nil,or_false] at N;rcases N with rfl|rfl|rfl<;>decide)).mono ?_
   rintro e V ⟨X,O,rfl,Y,E,J⟩
   have H:=zc E
   have I:=zc (zN z.out J)
   clear E J
   go_wp2
   go_ret
   exact⟨_,O,rfl,by have j:(({data:=#[101,120,112,111,114,116,32,123,32]}:ByteArray)).size=9:=rfl;have o:(({data:=#[32,125,32,102,114,111,109,32,34]}:ByteArray)).size=9:=rfl;have L:(({data:=#[34,59]}:ByteArray)).size=2:=rfl;simp only[ByteArray.size_append,j,o,L];omega,H.out,I.out⟩
  ·go_wp2
   go_ret
   exact⟨_,M,rfl,by have j:(({data:=#[101,120,112,111,114,116,32,42,32,102,114,111,109,32,34]}:ByteArray)).size=15:=rfl;have o:(({data:=#[34,59]}:ByteArray)).size=2:=rfl;simp only[ByteArray.size_append,j,o];omega,D.out,z.out⟩
  ·go_wp2
   go_ret
   exact⟨_,M,rfl,by have j:(({data:=#[101,120,112,111,114,116,32,100,101,102,97,117,108,116,32]}:ByteArray)).size=15:=rfl;have o:(({data:=#[59]}:ByteArray)).size=1:=rfl;simp only[ByteArray.size_append,j,o];omega,D.out,z.out⟩
  ·go_wp2_with fail
   refine (zbR S Q g _ 900 [({data:=#[108,101,116,32]}:ByteArray)++x1++({data:=#[32,61,32]}:ByteArray)++x2++({data:=#[59]}:ByteArray),({data:=#[102,117,110,99,116,105,111,110,32,102,40,41,32,123,32,114,101,116,117,114,110,32]}:ByteArray)++x2++({data:=#[59,32,125]}:ByteArray),({data:=#[108,101,116,32,122,32,61,32,49,59]}:ByteArray)] _ D.out (by simp) (by simp) (by intro x N;simp only[List.mem_cons,List.not_mem_nil,or_false] at N;have j:(({data:=#[108,101,116,32]}:ByteArray)).size=4:=rfl;have o:(({data:=#[32,61,32]}:ByteArray)).size=3:=rfl;have L:(({data:=#[59]}:ByteArray)).size=1:=rfl;have y3:(({data:=#[102,117,110,99,116,105,111,110,32,102,40,41,32,123,32,114,101,116,117,114,110,32]}:ByteArray)).size=22:=rfl;have y4:(({data:=#[59,32,125]}:ByteArray)).size=3:=rfl;have y5:(({data:=#[108,101,116,32,122,32,61,32,49,59]}:ByteArray)).size=10:=rfl;rcases N with rfl|rfl|rfl<;>simp only[ByteArray.size_append,j,o,L,y3,y4,y5]<;>omega)).mono ?_
   rintro e V ⟨X,O,rfl,Y,E,J⟩
   have H:=zc E
   have I:=zc (zN z.out J)
   clear E J
   go_wp2
   go_ret
   exact⟨_,O,rfl,by have j:(({data:=#[101,120,112,111,114,116,32]}:ByteArray)).size=7:=rfl;simp only[ByteArray.size_append,j];omega,H.out,I.out⟩
 |true=>
  rcases (show K=0∨K=1∨K=2∨K=3∨K=4∨K=5∨K=6∨K=7∨K=8∨K=9∨K=10∨K=11∨K=12∨K=13∨K=14∨K=15 by omega) with rfl|rfl|rfl|rfl|rfl|rfl|rfl|rfl|rfl|rfl|rfl|rfl|rfl|rfl|rfl|rfl
  ·go_wp2
   go_ret
   exact⟨_,M,rfl,by have j:(({data:=#[108,101,116,32]}:ByteArray)).size=4:=rfl;have o:(({data:=#[32,61,32]}:ByteArray)).size=3:=rfl;have L:(({data:=#[59]}:ByteArray)).size=1:=rfl;simp only[ByteArray.size_append,j,o,L];omega,D.out,z.out⟩
  ·go_wp2
   go_ret
   exact⟨_,M,rfl,by have j:(({data:=#[108,101,116,32]}:ByteArray)).size=4:=rfl;have o:(({data:=#[32,61,32]}:ByteArray)).size=3:=rfl;have L:(({data:=#[59]}:ByteArray)).size=1:=rfl;simp only[ByteArray.size_append,j,o,L];omega,D.out,z.out⟩
  ·go_wp2
   go_ret
   exact⟨_,M,rfl,by have j:(({data:=#[108,101,116,32]}:ByteArray)).size=4:=rfl;have o:(({data:=#[32,61,32]}:ByteArray)).size=3:=rfl;have L:(({data:=#[59]}:ByteArray)).size=1:=rfl;simp only[ByteArray.size_append,j,o,L];omega,D.out,z.out⟩
  ·go_wp2_with fail
   refine (zbR S Q g _ 100 [{data:=#[102]},{data:=#[103]}] _ D.out (by simp) (by simp) (by intro x N;simp only[List.mem_cons,List.not_mem_nil,or_false] at N;rcases N with rfl|rfl<;>decide)).mono ?_
   rintro e V ⟨X,O,rfl,Y,E,J⟩
   have H:=zc E
   have I:=zc (zN z.out J)
   clear E J
   go_wp2
   go_ret
   exact⟨_,O,rfl,by have j:(({data:=#[102,117,110,99,116,105,111,110,32]}:ByteArray)).size=9:=rfl;have o:(({data:=#[40,41,32,123,32,114,101,116,117,114,110,32]}:ByteArray)).size=12:=rfl;have L:(({data:=#[59,32,125]}:ByteArray)).size=3:=rfl;simp only[ByteArray.size_append,j,o,L];omega,H.out,I.out⟩
  ·go_wp2
   go_ret
   exact⟨_,M,rfl,by have j:(({data:=#[32,61,32]}:ByteArray)).size=3:=rfl;have o:(({data:=#[59]}:ByteArray)).size=1:=rfl;simp only[ByteArray.size_append,j,o];omega,D.out,z.out⟩
  ·go_wp2
   go_ret
   exact⟨_,M,rfl,by have j:(({data:=#[112,114,105,110,116,40]}:ByteArray)).size=6:=rfl;have o:(({data:=#[41,59]}:ByteArray)).size=2:=rfl;simp only[ByteArray.size_append,j,o];omega,D.out,z.out⟩
  ·go_wp2
   go_ret
   exact⟨_,M,rfl,by have j:(({data:=#[112,114,105,110,116,40]}:ByteArray)).size=6:=rfl;have o:(({data:=#[41,59]}:ByteArray)).size=2:=rfl;simp only[ByteArray.size_append,j,o];omega,D.out,z.out⟩
  ·go_wp2_with fail
   refine (zdv S Q g _ 2 _ D.out (by omega)).mono ?_
   rintro e V ⟨rfl,E,J⟩
   obtain⟨O,U⟩: ∃q',(bw S M 2).2=q':=⟨_,rfl⟩
   rw[U] at E
   have H:=zc E
   have I:=zc (zN z.out J)
   clear E J U
   generalize ((bw S M 2).1==0)=b
   cases b with
   |false=>
    go_wp2
    go_ret
    exact⟨_,O,rfl,by have j:(({data:=#[116,104,114,111,119,32]}:ByteArray)).size=6:=rfl;have o:(({data:=#[59]}:ByteArray)).size=1:=rfl;simp only[ByteArray.size_append,j,o];omega,H.out,I.out⟩
   |true=>
    go_wp2
    go_ret
    exact⟨_,O,rfl,by have j:(({data:=#[102,97,105,108,32]}:ByteArray)).size=5:=rfl;have o:(({data:=#[59]}:ByteArray)).size=1:=rfl;simp only[ByteArray.size_append,j,o];omega,H.out,I.out⟩
  ·go_wp2
   go_ret
   exact⟨_,M,rfl,by have j:(({data:=#[108,101,116,32]}:ByteArray)).size=4:=rfl;have o:(({data:=#[32,61,32]}:ByteArray)).size=3:=rfl;have L:(({data:=#[59]}:ByteArray)).size=1:=rfl;simp only[ByteArray.size_append,j,o,L];omega,D.out,z.out⟩
  ·go_wp2
   go_ret
   exact⟨_,M,rfl,by have j:(({data:=#[108,101,116,32]}:ByteArray)).size=4:=rfl;have o:(({data:=#[32,61,32]}:ByteArray)).size=3:=rfl;have L:(({data:=#[59]}:ByteArray)).size=1:=rfl;simp only[ByteArray.size_append,j,o,L];omega,D.out,z.out⟩
  ·go_wp2
   go_ret
   exact⟨_,M,rfl,by have j:(({data:=#[108,101,116,32]}:ByteArray)).size=4:=rfl;have o:(({data:=#[32,61,32]}:ByteArray)).size=3:=rfl;have L:(({data:=#[59]}:ByteArray)).size=1:=rfl;simp only[ByteArray.size_append,j,o,L];omega,D.out,z.out⟩
  ·go_wp2_with fail
   refine (zbR S Q g _ 100 [{data:=#[102]},{data:=#[103]}] _ D.out (by simp) (by simp) (by intro x N;simp only[List.mem_cons,List.not_mem_nil,or_false] at N;rcases N with rfl|rfl<;>decide)).mono ?_
   rintro e V ⟨X,O,rfl,Y,E,J⟩
   have H:=zc E
   have I:=zc (zN z.out J)
   clear E J
   go_wp2
   go_ret
   exact⟨_,O,rfl,by have j:(({data:=#[102,117,110,99,116,105,111,110,32]}:ByteArray)).size=9:=rfl;have o:(({data:=#[40,41,32,123,32,114,101,116,117,114,110,32]}:ByteArray)).size=12:=rfl;have L:(({data:=#[59,32,125]}:ByteArray)).size=3:=rfl;simp only[ByteArray.size_append,j,o,L];omega,H.out,I.out⟩
  ·go_wp2
   go_ret
   exact⟨_,M,rfl,by have j:(({data:=#[32,61,32]}:ByteArray)).size=3:=rfl;have o:(({data:=#[59]}:ByteArray)).size=1:=rfl;simp only[ByteArray.size_append,j,o];omega,D.out,z.out⟩
  ·go_wp2
   go_ret
   exact⟨_,M,rfl,by have j:(({data:=#[112,114,105,110,116,40]}:ByteArray)).size=6:=rfl;have o:(({data:=#[41,59]}:ByteArray)).size=2:=rfl;simp only[ByteArray.size_append,j,o];omega,D.out,z.out⟩
  ·go_wp2
   go_ret
   exact⟨_,M,rfl,by have j:(({data:=#[112,114,105,110,116,40]}:ByteArray)).size=6:=rfl;have o:(({data:=#[41,59]}:ByteArray)).size=2:=rfl;simp only[ByteArray.size_append,j,o];omega,D.out,z.out⟩
  ·go_wp2_with fail
   refine (zdv S Q g _ 2 _ D.out (by omega)).mono ?_
   rintro e V ⟨rfl,E,J⟩
   obtain⟨O,U⟩: ∃q',(bw S M 2).2=q':=⟨_,rfl⟩
   rw[U] at E
   have H:=zc E
   have I:=zc (zN z.out J)
   clear E J U
   generalize ((bw S M 2).1==0)=b
   cases b with
   |false=>
    go_wp2
    go_ret
    exact⟨_,O,rfl,by have j:(({data:=#[116,104,114,111,119,32]}:ByteArray)).size=6:=rfl;have o:(({data:=#[59]}:ByteArray)).size=1:=rfl;simp only[ByteArray.size_append,j,o];omega,H.out,I.out⟩
   |true=>
    go_wp2
    go_ret
    exact⟨_,O,rfl,by have j:(({data:=#[102,97,105,108,32]}:ByteArray)).size=5:=rfl;have o:(({data:=#[59]}:ByteArray)).size=1:=rfl;simp only[ByteArray.size_append,j,o];omega,H.out,I.out⟩
def zeh (S:Src) (y:Int) (T:List Int×(Nat×Int)) (acc:List Int) (n:Nat) (q:Nat×Int):Prop:=acc++(zcQ S y n q).1=T.1∧(zcQ S y n q).2=T.2
theorem zhF {S:Src} {y:Int} {T:List Int×(Nat×Int)} {acc:List Int} {n:Nat} {q:Nat×Int} (h:zeh S y T acc (n+1) q):zeh S y T (acc++[chr y (cb S q).1]) n (cb S q).2:=by
 obtain⟨a,b⟩:=h
 rw[zcQ] at a b
 exact⟨by rw[List.append_assoc];exact a,b⟩
theorem znF {S:Src} {y:Int} {T:List Int×(Nat×Int)} {acc:List Int} {q:Nat×Int} (h:zeh S y T acc 0 q):acc=T.1∧q=T.2:=by
 obtain⟨a,b⟩:=h
 rw[zcQ] at a b
 exact⟨by simpa using a,b⟩
theorem znG (S:Src) (hS:S.ok) (g:Nat) (q:Nat×Int) (j:Int) (w:World) (hc:zae 83 S w g q) (am:0≤j) (an:j≤1000):
  Calls Tryz.prog 79 #[.pointer (some ⟨g,0,none⟩),.int .i64 j] w fun e w'=>e= .returned (.string (strOfNums (tx S q j).1))∧zae 83 S w' g (tx S q j).2∧w.grownBy w' (some g):=by
 obtain⟨i0,hi,ab,X,Z⟩:=info_parts Tryz.infoByte
 have I:=zdW hc
 have aj:=zcB S (bw S q 4).2 (j+1) (by omega)
 have HT:Hid (tx S q j=zcQ S (bw S q 4).1 (bw S (bw S q 4).2 (j+1)).1.toNat (bw S (bw S q 4).2 (j+1)).2):=rfl
 go_enter Tryz.func79,Tryz.ntmps79
 go_wp2_with fail
 refine (zbI S hS g q 4 _ (zdt hc ((Below.refl w.heap.size w).alloc (Nat.le_refl _) _) I) (by omega)).mono ?_
 rintro e w1 ⟨rfl,af,Y⟩
 go_wp2_with fail
 refine (zbI S hS g _ (j+1) _ af (by omega)).mono ?_
 rintro e w2 ⟨rfl,ad,ac⟩
 have V:zb6 w2 w.heap.size 5 (.slice (some ⟨w.heap.size,0,none⟩) 0 0) 0 []:=by
  have h0:zb6 (w.alloc (.cells #[] 5)) w.heap.size 5 (.slice (some ⟨w.heap.size,0,none⟩) 0 0) 0 []:=World.ownsRow_lit w #[] 0 (Nat.le_refl _) (by unfold maxLen;omega) rfl
  exact zfy (zfy h0 Y I) ac I
 have ag:w.grownBy w2 (some g):=zN (zN (zdH (World.grownBy.refl w _) ((Below.refl w.heap.size w).alloc (Nat.le_refl _) (.cells #[] 5)) (Nat.le_refl _)) Y) ac
 obtain⟨m0,M⟩: ∃m:Nat,(bw S (bw S q 4).2 (j+1)).1=m:=⟨(bw S (bw S q 4).2 (j+1)).1.toNat,by omega⟩
 rw[M]
 have ah:Hid (zeh S (bw S q 4).1 (tx S q j) [] m0 (bw S (bw S q 4).2 (j+1)).2):=by
  show zeh ..
  have e:=HT.out
  rw[M,Int.toNat_natCast] at e
  rw[e]
  exact⟨rfl,rfl⟩
 have al:m0≤1000:=by omega
 clear M HT aj hc af Y ac
 go_wp2
 go_loopw [5,7,8] (fun v n _ wr=>∃(k:Nat) (acc:List Int) (m:Nat) (p:Nat×Int),n= .int .i64 m∧k+m≤1000∧zeh S (bw S q 4).1 (tx S q j) acc m p∧zb6 wr w.heap.size 5 v k acc∧zae 83 S wr g p∧w.grownBy wr (some g)) (fun _ n _ _=>(intOf n).toNat)
 case atStart=>exact⟨0,[],m0,_,rfl,by omega,ah.out,V,ad,ag⟩
 case round=>
  obtain⟨k,acc,m,p,rfl,aa,ae,H,U,E⟩:=hrel
  have K:=ae
  clear ae V ad ag
  match m,aa,K with
  |0,aa,K=>
   obtain⟨e1,e2⟩:=znF K
   have ai:Hid (acc=(tx S q j).1):=e1
   have ak:Hid (p=(tx S q j).2):=e2
   clear e1 e2 K
   rw[ai.out] at H
   have ap:=zhw (P:=Tryz.prog) (src:=22) (dst:=9) Tryz.underlying22 Tryz.underlying5 Tryz.underlying9 H
   go_wp2
   go_ret
   exact⟨rfl,by rw[←ak.out];exact U,E⟩
  |m+1,aa,HAT0=>
   have K:Hid (zeh S (bw S q 4).1 (tx S q j) acc (m+1) p):=HAT0
   clear HAT0
   have ao:=zdV S p
   by_cases Q:(bw S q 4).1=1
   ·have q1:((bw S q 4).1==1)=true:=by simpa using Q
    have q2:((bw S q 4).1==2)=false:=by rw[Q];rfl
    have O:Hid (chr (bw S q 4).1 (cb S p).1=(cb S p).1%2):=by show chr _ _=_;rw[chr,if_pos Q]
    clear Q
    go_wp2_with (first|(go_at_call 77;refine (zdu S hS g p _ U).mono ?_;rintro e w3 ⟨rfl,N,D⟩;have o:=zfy H D I;have J:=Nat.le_trans E.size D.size)|(at_builtin;refine zh1 w3 rfl _ _ 22 rfl w.heap.size 5 i0 Tryz.underlying22 hi ab X Z _ k acc (by rfl) o ((cb S p).1%2) (by rfl) (by omega) J ?_))
    intro v' w4 z L
    go_wp2
    go_roundw
    case rel=>exact⟨k+1,acc++[(cb S p).1%2],m,(cb S p).2,by go_num,by omega,by rw[←O.out];exact zhF K.out,z,zdt N L I,zdH (zN E D) L (Nat.le_refl _)⟩
    case measure=>simp[intOf]
   ·have q1:((bw S q 4).1==1)=false:=by simpa using Q
    by_cases h2:(bw S q 4).1=2
    ·have q2:((bw S q 4).1==2)=true:=by simpa using h2
     have O:Hid (chr (bw S q 4).1 (cb S p).1=97+(cb S p).1%4):=by show chr _ _=_;rw[chr,if_neg Q,if_pos h2]
     clear Q h2
     go_wp2_with (first|(go_at_call 77;refine (zdu S hS g p _ U).mono ?_;rintro e w3 ⟨rfl,N,D⟩;have o:=zfy H D I;have J:=Nat.le_trans E.size D.size)|(at_builtin;refine zh1 w3 rfl _ _ 22 rfl w.heap.size 5 i0 Tryz.underlying22 hi ab X Z _ k acc (by rfl) o (97+(cb S p).1%4) (by rfl) (by omega) J ?_))
     intro v' w4 z L
     go_wp2
     go_roundw
     case rel=>exact⟨k+1,acc++[97+(cb S p).1%4],m,(cb S p).2,by go_num,by omega,by rw[←O.out];exact zhF K.out,z,zdt N L I,zdH (zN E D) L (Nat.le_refl _)⟩
     case measure=>simp[intOf]
    ·have q2:((bw S q 4).1==2)=false:=by simpa using h2
     have O:Hid (chr (bw S q 4).1 (cb S p).1=(cb S p).1):=by show chr _ _=_;rw[chr,if_neg Q,if_neg h2]
     clear Q h2
     go_wp2_with (first|(go_at_call 77;refine (zdu S hS g p _ U).mono ?_;rintro e w3 ⟨rfl,N,D⟩;have o:=zfy H D I;have J:=Nat.le_trans E.size D.size)|(at_builtin;refine zh1 w3 rfl _ _ 22 rfl w.heap.size 5 i0 Tryz.underlying22 hi ab X Z _ k acc (by rfl) o ((cb S p).1) (by rfl) (by omega) J ?_))
     intro v' w4 z L
     go_wp2
     go_roundw
     case rel=>exact⟨k+1,acc++[(cb S p).1],m,(cb S p).2,by go_num,by omega,by rw[←O.out];exact zhF K.out,z,zdt N L I,zdH (zN E D) L (Nat.le_refl _)⟩
     case measure=>simp[intOf]
end Go.Proofs.YthfeoomfiafldaaGreat
