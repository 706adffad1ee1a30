/-
  What the cursor's functions of the specification tell,and what they leave of it: l1New,l1Byte,l1Below,l1Once: the walks.
  What spec.l1Pick tells: one of the texts,none of them long: the walk.
  Tokens of a text,as plain relations: where a run of bytes ends,which token stands at a place,what is passed over,and that each of these is one alone. No program is spoken of.
  What spec's parts of Lex answer: l3Letter,l3Digit,l3Sign,l3Word,l3Num,l3Str,l3Skip: the walks.
  Plain facts on decimal digits. No program is spoken of.
  What impl.Dec and spec.Dec answer,at every number: the walks.
  Programs,as plain functions: what a row of tokens means. No program is spoken of.
  Texts of programs,as plain functions. No program is spoken of.
  An expression that is used once: the texts of all statements' expressions are together no longer than what all expressions cost. No program is spoken of.
  A row of tokens in memory,and appending one. No program is spoken of.
-/
import Derived.Test.YtlnohpdiiileeaaGreatProg
import Derived.WalkKit
import Derived.WalkLawsBesides
import Derived.Deep.QuietTactic
import Derived.BigQuiet
import Derived.Deep.RegionLaw
import Derived.Test.YtlnohpdiiileeaaGreatClDrawMath
import Derived.Test.YtlnohpdiiileeaaGreatClAid
import Derived.Test.YtlnohpdiiileeaaGreatClBytes
import Derived.Test.YtlnohpdiiileeaaGreatClStrToVarMath
import Derived.Test.YtlnohpdiiileeaaGreatClApp
namespace Go.Proofs.YtlnohpdiiileeaaGreat
set_option maxHeartbeats 1600000
set_option maxRecDepth 100000
open Go.RowKit Go.PlainAid
theorem zms {T:TypeId} {S:Src} {w:World} {g:Nat} {q:Nat×Int} (h:CurW T S w g q) (n:Nat):CurW T S (w.drewN n) g q:=zod h fun _ _=>rfl
theorem zgi (S:Src) (hS:S.ok) (g:Nat) (q:Nat×Int) (w:World) (hc:CurW 176 S w g q):
  Calls Tryz.prog 122 #[.pointer (some ⟨g,0,none⟩)] w fun e w'=>e= .returned (.int .i64 (cb S q).1)∧CurW 176 S w' g (cb S q).2∧w.grownBy w' (some g):=by
 obtain⟨i,h⟩:=q
 obtain⟨hc0,hc1,hc2,hf1,hf2⟩:=zbhz hc
 have hlen:=hS.1
 have hbh:=zbxf
 have hbx:=zbrv
 simp only at hc1 hc2
 by_cases hi:i<S.len
 ·obtain⟨b,off,ha,hb,hcell⟩:=hc.2.2.2 i hi
  have hbg:b<g:=Nat.lt_of_lt_of_le hb hc.2.1
  have hz:=hS.2 i
  rw[ha] at hc0
  have HA:=zbvm (h:=h) hi
  have hx:=zbam (bits .xor .i64 (bh h/8589934592) (bh h/35184372088832))
  rw[zbrv] at hx
  have HC:Hid (CurW 176 S w g (i,h)):=hc
  have HA':Hid (cb S (i,h)=(bits .and .i64 (bx h+S.Z i) 255,(i+1,bh h))):=HA
  clear hc HA
  go_enter Tryz.func122,Tryz.ntmps122
  go_wp2
  go_quiet (fail)
  go_wp2
  go_quiet (fail)
  go_wp2
  go_quiet (fail)
  go_wp2
  go_ret
  refine⟨znd (by rw[HA'.out]),?_,zmn (zih (zmn (World.grownBy.refl _ _) _) _) _⟩
  rw[HA'.out]
  exact zbvo (zms (zbkv HC.out _) _) (i+1) (by omega)
 ·have HC:Hid (CurW 176 S w g (i,h)):=hc
  have HA':Hid (cb S (i,h)=(bx h,(i,bh h))):=zbxg hi
  clear hc
  go_enter Tryz.func122,Tryz.ntmps122
  go_wp2
  go_quiet (fail)
  go_wp2
  go_quiet (fail)
  go_wp2
  go_ret
  exact⟨znd (by rw[HA'.out]),by rw[HA'.out];exact zms (zms (zbkv HC.out _) _) _,zih (zih (zmn (World.grownBy.refl _ _) _) _) _⟩
theorem zbxh {S:Src} {q:Nat×Int} {n:Int} (h:n≤0):bw S q n=(0,q):=by rw[bw,if_pos h]
theorem zbvp {S:Src} {q:Nat×Int} {n:Int} (h: ¬n≤0) (k:n≤256):bw S q n=((cb S q).1%n,(cb S q).2):=by rw[bw,if_neg h,if_pos k]
theorem zbvq {S:Src} {q:Nat×Int} {n:Int} (h: ¬n≤0) (k: ¬n≤256):bw S q n=(((cb S q).1*16777216+(cb S (cb S q).2).1*65536+(cb S (cb S (cb S q).2).2).1*256+(cb S (cb S (cb S (cb S q).2).2).2).1)%n,(cb S (cb S (cb S (cb S q).2).2).2).2):=by rw[bw,if_neg h,if_neg k]
theorem zci (S:Src) (hS:S.ok) (g:Nat) (q:Nat×Int) (n:Int) (w:World) (hc:CurW 176 S w g q) (_:n≤9223372036854775807):
  Calls Tryz.prog 72 #[.pointer (some ⟨g,0,none⟩),.int .i64 n] w fun e w'=>e= .returned (.int .i64 (bw S q n).1)∧CurW 176 S w' g (bw S q n).2∧w.grownBy w' (some g):=by
 by_cases h0:n≤0
 ·rw[zbxh h0]
  go_enter Tryz.func72,Tryz.ntmps72
  go_wp2
  go_ret
  exact⟨rfl,hc,World.grownBy.refl _ _⟩
 ·by_cases h1:n≤256
  ·rw[zbvp h0 h1]
   have hb:=zpq S q
   go_enter Tryz.func72,Tryz.ntmps72
   go_wp2_with fail
   refine (zgi S hS g q _ hc).mono ?_
   rintro e w1 ⟨rfl,hc1,hg1⟩
   go_wp2
   go_ret
   exact⟨rfl,hc1,hg1⟩
  ·rw[zbvq h0 h1]
   have hb1:=zpq S q
   have hb2:=zpq S (cb S q).2
   have hb3:=zpq S (cb S (cb S q).2).2
   have hb4:=zpq S (cb S (cb S (cb S q).2).2).2
   go_enter Tryz.func72,Tryz.ntmps72
   go_wp2_with fail
   refine (zgi S hS g q _ hc).mono ?_
   rintro e w1 ⟨rfl,hc1,hg1⟩
   go_wp2_with fail
   refine (zgi S hS g _ _ hc1).mono ?_
   rintro e w2 ⟨rfl,hc2,hg2⟩
   go_wp2_with fail
   refine (zgi S hS g _ _ hc2).mono ?_
   rintro e w3 ⟨rfl,hc3,hg3⟩
   go_wp2_with fail
   refine (zgi S hS g _ _ hc3).mono ?_
   rintro e w4 ⟨rfl,hc4,hg4⟩
   go_wp2
   go_ret
   exact⟨rfl,hc4,zj (zj (zj hg1 hg2) hg3) hg4⟩
theorem zgj (S:Src) (hS:S.ok) (g:Nat) (q:Nat×Int) (n:Int) (w:World) (hc:CurW 176 S w g q) (hn:n≤9223372036854775807):
  Calls Tryz.prog 84 #[.pointer (some ⟨g,0,none⟩),.int .i64 n] w fun e w'=>e= .returned (.bool ((bw S q n).1==0))∧CurW 176 S w' g (bw S q n).2∧w.grownBy w' (some g):=by
 go_enter Tryz.func84,Tryz.ntmps84
 go_wp2_with fail
 refine (zci S hS g q n _ hc hn).mono ?_
 rintro e w1 ⟨rfl,hc1,hg1⟩
 go_wp2
 go_ret
 exact⟨rfl,hc1,hg1⟩
theorem zbxi (y:Int):0≤bits .and .i64 y 1073741823∧bits .and .i64 y 1073741823≤1073741823:=by
 have e:bits .and .i64 y 1073741823=IntKind.i64.wrap (((BitVec.ofInt 64 y&&& BitVec.ofInt 64 1073741823).toNat:Nat):Int):=rfl
 have h:(BitVec.ofInt 64 y&&& BitVec.ofInt 64 1073741823).toNat≤1073741823:=by
  rw[BitVec.toNat_and]
  exact Nat.and_le_right
 rw[e,IntKind.wrap_i64]
 omega
theorem zbsa (S:Src) (hS:S.ok) (k:Nat):0≤newH S k∧newH S k≤1073741823:=by
 cases k with
 |zero=>have:=hS.1;simp only[newH];omega
 |succ k=>exact zbxi _
theorem zbkw (S:Src) (hS:S.ok) (w:World) (hc:CodeW S w) (hl:S.lim≤w.heap.size):
  Calls Tryz.prog 68 #[.slice S.a S.len S.cap] w fun e w'=>e= .returned (.pointer (some ⟨w.heap.size,0,none⟩))∧CurW 176 S w' w.heap.size (start S)∧Below w.heap.size w w':=by
 have hlen:=hS.1
 by_cases h0:0<S.len
 ·obtain⟨b,off,ha,hb,hcell⟩:=hc 0 h0
  have hcells: ∀j,j<S.len→w.cell? ⟨b,off+j,none⟩=some (.int .u8 (S.Z j)):=by
   intro j hj
   obtain⟨b',off',ha',hb',hcell'⟩:=hc j hj
   rw[ha] at ha'
   simp only[Option.some.injEq,Addr.mk.injEq,and_true] at ha'
   rw[ha'.1,ha'.2]
   exact hcell'
  rw[ha]
  go_enter Tryz.func68,Tryz.ntmps68
  go_wp2
  go_loop [3,4] (fun h i=>∃k:Nat,k≤S.len∧k≤4000∧i= .int .i64 k∧h= .int .i64 (newH S k)) (fun _ i=>(4000-intOf i).toNat)
  case atStart=>exact⟨0,by omega,by omega,rfl,rfl⟩
  case round=>
   obtain⟨k,hk,hk4,rfl,rfl⟩:=hrel
   have hn:=zbsa S hS k
   have hz:=hS.2 k
   by_cases hlt:k<S.len∧k<4000
   ·obtain⟨hl1,hl2⟩:=hlt
    have hck:=hcells k hl1
    clear hcells
    go_wp2
    go_round
    case rel=>exact⟨k+1,by omega,by omega,by go_num,rfl⟩
    case measure=>simp[intOf];omega
   ·have HS:Hid (start S=(0,newH S k)):=by
     show start S=_
     rw[start,show min S.len 4000=k from by omega]
    clear hcells
    by_cases hks:k<S.len
    all_goals
     go_wp2
     go_ret
     refine⟨rfl,?_,(Below.refl _ _).alloc (Nat.le_refl _) _⟩
     rw[HS.out]
     refine⟨?_,hl,by simp,zig hc ((Below.refl w.heap.size w).alloc (Nat.le_refl _) _) hl⟩
     rw[heap_alloc_new,ha]
     rfl
 ·have HS:Hid (start S=(0,newH S 0)):=by
   show start S=_
   rw[start,show min S.len 4000=0 from by omega]
  go_enter Tryz.func68,Tryz.ntmps68
  go_wp2
  go_loop [3,4] (fun h i=>i= .int .i64 0∧h= .int .i64 (newH S 0)) (fun _ _=>0)
  case atStart=>exact⟨rfl,rfl⟩
  case round=>
   obtain⟨rfl,rfl⟩:=hrel
   go_wp2
   go_ret
   refine⟨rfl,?_,(Below.refl _ _).alloc (Nat.le_refl _) _⟩
   rw[HS.out]
   refine⟨?_,hl,by simp,zig hc ((Below.refl w.heap.size w).alloc (Nat.le_refl _) _) hl⟩
   rw[heap_alloc_new]
   rfl
theorem zbkx (S:Src) (hS:S.ok) (g:Nat) (q:Nat×Int) (b m N:Nat) (w:World) (hc:CurW 176 S w g q) (hm:1≤m) (hm2:m≤1000)
  (hbw:b<w.heap.size) (hbg:b≠g) (hcell: ∀j,j<m→∃x,w.cell? ⟨b,j,none⟩=some (.string x)∧x.size≤N):
  Calls Tryz.prog 71 #[.pointer (some ⟨g,0,none⟩),.slice (some ⟨b,0,none⟩) m m] w fun e w'=>∃x q',e= .returned (.string x)∧x.size≤N∧CurW 176 S w' g q'∧w.grownBy w' (some g):=by
 have hbd:=zko S q m (by omega)
 go_enter Tryz.func71,Tryz.ntmps71
 go_wp2_with fail
 refine (zci S hS g q m _ hc (by omega)).mono ?_
 rintro e w1 ⟨rfl,hc1,hg1⟩
 obtain⟨x,hx,hxs⟩:=hcell (bw S q m).1.toNat (by omega)
 have hcl:w1.cell? ⟨b,(bw S q m).1.toNat,none⟩=some (.string x):=by
  rw[←hx]
  exact World.cell?_of_block (w:=w) (a:=⟨b,_,none⟩) (hg1.block b hbw (by simpa using hbg))
 have HC:Hid (CurW 176 S w1 g (bw S q m).2):=hc1
 clear hcell hc hc1
 go_wp2
 go_ret
 exact⟨x,_,rfl,hxs,HC.out,hg1⟩
def letB (c:Int) (scr:Bool):Bool:=decide (97≤c∧c≤122)||decide (65≤c∧c≤90)||decide (c=95)||(scr&&decide (c=36))
def digB (c:Int):Bool:=decide (48≤c∧c≤57)
def worB (scr:Bool) (c:Int):Bool:=letB c scr||digB c
def zhj (c:Int):Bool:=decide (c≠10)
abbrev zkq (c:Int):Prop:=c=9∨c=10∨c=13∨c=32
abbrev Sign (c:Int):Prop:=c=123∨c=125∨c=40∨c=41∨c=44∨c=59∨c=61∨c=46∨c=42∨c=43∨c=45
abbrev zgk (c:Int):Prop:=32≤c∧c≤126∧c≠34∧c≠92
theorem ziq {c:Int} {scr:Bool}:letB c scr=true↔(97≤c∧c≤122)∨(65≤c∧c≤90)∨c=95∨(scr=true∧c=36):=by simp[letB,or_assoc]
theorem zei {c:Int}:digB c=true↔48≤c∧c≤57:=by simp[digB]
/-- The run of bytes that p asks for, from a on, ends at e. -/
def zcx (p:Int→Bool) (s:ByteArray) (a e:Nat):Prop:=a≤e∧e≤s.size∧(∀j,a≤j→j<e→p (bt s j)=true)∧(e<s.size→p (bt s e)=false)
theorem zkr {p:Int→Bool} {s:ByteArray} {a e1 e2:Nat} (h1:zcx p s a e1) (h2:zcx p s a e2):e1=e2:=by
 obtain⟨a1,b1,c1,d1⟩:=h1
 obtain⟨a2,b2,c2,d2⟩:=h2
 rcases Nat.lt_trichotomy e1 e2 with h|h|h
 ·have:=c2 e1 a1 h
  rw[d1 (by omega)] at this
  cases this
 ·exact h
 ·have:=c1 e2 a2 h
  rw[d2 (by omega)] at this
  cases this
/-- The number that k digits make. -/
def dval (s:ByteArray) (a:Nat):Nat→Int
 |0=>0
 |k+1=>dval s a k*10+(bt s (a+k)-48)
def zfe (s:ByteArray) (a:Nat) (scr:Bool) (n:Int) (e:Nat):Prop:=
 zcx digB s a e∧a<e∧(e=a+1∨bt s a≠48)∧n=dval s a (e-a)∧n≤1000000∧(e<s.size→letB (bt s e) scr=false)
theorem zbky {s:ByteArray} {a:Nat} {scr:Bool} {n1 n2:Int} {e1 e2:Nat} (h1:zfe s a scr n1 e1) (h2:zfe s a scr n2 e2):n1=n2∧e1=e2:=by
 have he:=zkr h1.1 h2.1
 subst he
 exact⟨h1.2.2.2.1.trans h2.2.2.2.1.symm,rfl⟩
theorem zoe {s:ByteArray} {a:Nat} (k m:Nat) (hd: ∀j,j<m→48≤bt s (a+j)) (hk:k≤m):0≤dval s a k∧dval s a k≤dval s a m:=by
 have h0: ∀m,(∀j,j<m→48≤bt s (a+j))→0≤dval s a m:=by
  intro m
  induction m with
  |zero=>intro _;exact Int.le_refl _
  |succ m ih=>
   intro h
   have h1:=ih (fun j hj=>h j (by omega))
   have h2:=h m (by omega)
   show 0≤dval s a m*10+(bt s (a+m)-48)
   omega
 induction m with
 |zero=>
  obtain rfl:k=0:=by omega
  exact⟨Int.le_refl _,Int.le_refl _⟩
 |succ m ih=>
  by_cases e:k=m+1
  ·subst e
   exact⟨h0 _ hd,Int.le_refl _⟩
  ·obtain⟨h1,h2⟩:=ih (fun j hj=>hd j (by omega)) (by omega)
   have h3:=hd m (by omega)
   refine⟨h1,?_⟩
   show _≤dval s a m*10+(bt s (a+m)-48)
   omega
def zgz (s:ByteArray) (a e:Nat):Prop:=a+2≤e∧e≤s.size∧e≤a+42∧bt s (e-1)=34∧∀j,a<j→j+1<e→zgk (bt s j)
theorem zbkz {s:ByteArray} {a e1 e2:Nat} (h1:zgz s a e1) (h2:zgz s a e2):e1=e2:=by
 obtain⟨a1,b1,c1,d1,f1⟩:=h1
 obtain⟨a2,b2,c2,d2,f2⟩:=h2
 rcases Nat.lt_trichotomy e1 e2 with h|h|h
 ·exact absurd d1 (f2 (e1-1) (by omega) (by omega)).2.2.1
 ·exact h
 ·exact absurd d2 (f1 (e2-1) (by omega) (by omega)).2.2.1
structure Tk where
 kind:Int
 text:ByteArray
 num:Int
 pos:Nat
/-- The token t stands at a and ends at e. -/
inductive Tok (s:ByteArray) (scr:Bool) (a:Nat):Tk→Nat→Prop
 |name {e:Nat} (h:letB (bt s a) scr=true) (he:zcx (worB scr) s a e):Tok s scr a ⟨1,s.extract a e,0,a⟩ e
 |num {n:Int} {e:Nat} (h:digB (bt s a)=true) (he:zfe s a scr n e):Tok s scr a ⟨2,{data:=#[]},n,a⟩ e
 |str {e:Nat} (h:bt s a=34) (he:zgz s a e):Tok s scr a ⟨3,s.extract (a+1) (e-1),0,a⟩ e
 |sign (h:Sign (bt s a)):Tok s scr a ⟨4,s.extract a (a+1),0,a⟩ (a+1)
theorem zlf {c:Int} {scr:Bool} (h:letB c scr=true):digB c=false∧c≠34∧¬Sign c:=by
 rw[ziq] at h
 refine⟨decide_eq_false (by omega),by omega,by unfold Sign;omega⟩
theorem zlg {c:Int} (h:digB c=true):c≠34∧¬Sign c:=by
 rw[zei] at h
 exact⟨by omega,by unfold Sign;omega⟩
theorem zbsb {s:ByteArray} {scr:Bool} {a:Nat} {t1 t2:Tk} {e1 e2:Nat} (h1:Tok s scr a t1 e1) (h2:Tok s scr a t2 e2):t1=t2∧e1=e2:=by
 cases h1 with
 |name h he=>
  have hd:=zlf h
  cases h2 with
  |name h' he'=>have:=zkr he he';subst this;exact⟨rfl,rfl⟩
  |num h' he'=>rw[hd.1] at h';cases h'
  |str h' he'=>exact absurd h' hd.2.1
  |sign h'=>exact absurd h' hd.2.2
 |num h he=>
  have hd:=zlg h
  cases h2 with
  |name h' he'=>rw[(zlf h').1] at h;cases h
  |num h' he'=>obtain⟨rfl,rfl⟩:=zbky he he';exact⟨rfl,rfl⟩
  |str h' he'=>exact absurd h' hd.1
  |sign h'=>exact absurd h' hd.2
 |str h he=>
  cases h2 with
  |name h' he'=>exact absurd h (zlf h').2.1
  |num h' he'=>exact absurd h (zlg h').1
  |str h' he'=>have:=zbkz he he';subst this;exact⟨rfl,rfl⟩
  |sign h'=>rw[h] at h';unfold Sign at h';omega
 |sign h=>
  cases h2 with
  |name h' he'=>exact absurd h (zlf h').2.2
  |num h' he'=>exact absurd h (zlg h').2
  |str h' he'=>rw[h'] at h;unfold Sign at h;omega
  |sign h'=>exact⟨rfl,rfl⟩
theorem zkg {s:ByteArray} {scr:Bool} {a:Nat} {t:Tk} {e:Nat} (ha:a<s.size) (h:Tok s scr a t e):a<e∧e≤s.size∧t.pos=a:=by
 cases h with
 |name h he=>
  refine⟨?_,he.2.1,rfl⟩
  rcases Nat.lt_or_ge a e with k|k
  ·exact k
  ·have e1:e=a:=by have:=he.1;omega
   subst e1
   have:=he.2.2.2 ha
   simp[worB,h] at this
 |num h he=>exact⟨he.2.1,he.1.2.1,rfl⟩
 |str h he=>exact⟨by have:=he.1;omega,he.2.1,rfl⟩
 |sign h=>exact⟨by omega,by omega,rfl⟩
/-- Two / stand at a. -/
abbrev zkh (s:ByteArray) (a:Nat):Prop:=bt s a=47∧a+1<s.size∧bt s (a+1)=47
/-- From a on all is passed over up to b. -/
inductive Skip (s:ByteArray):Nat→Nat→Prop
 |done:Skip s s.size s.size
 |stop {a:Nat} (h:a<s.size) (h1: ¬zkq (bt s a)) (h2: ¬zkh s a):Skip s a a
 |blank {a b:Nat} (h:a<s.size) (h1:zkq (bt s a)) (r:Skip s (a+1) b):Skip s a b
 |comment {a c b:Nat} (h:a<s.size) (h1:zkh s a) (hc:zcx zhj s a c) (r:Skip s c b):Skip s a b
theorem ztm {s:ByteArray} {a:Nat} (h:zkh s a): ¬zkq (bt s a):=by rw[h.1];unfold zkq;omega
theorem zban {s:ByteArray} {a b1 b2:Nat} (h1:Skip s a b1):Skip s a b2→b1=b2:=by
 induction h1 with
 |done=>
  intro h2
  generalize hx:s.size=x at h2
  cases h2 with
  |done=>rfl
  |stop h _ _=>omega
  |blank h _ _=>omega
  |comment h _ _ _=>omega
 |stop h k1 k2=>
  intro h2
  cases h2 with
  |done=>rfl
  |stop _ _ _=>rfl
  |blank _ k _=>exact absurd k k1
  |comment _ k _ _=>exact absurd k k2
 |blank h k _ ih=>
  intro h2
  cases h2 with
  |done=>exact absurd h (Nat.lt_irrefl _)
  |stop _ k1 _=>exact absurd k k1
  |blank _ _ r=>exact ih r
  |comment _ k1 _ _=>exact absurd k (ztm k1)
 |comment h k hc _ ih=>
  intro h2
  cases h2 with
  |done=>exact absurd h (Nat.lt_irrefl _)
  |stop _ _ k2=>exact absurd k k2
  |blank _ k1 _=>exact absurd k1 (ztm k)
  |comment _ _ hc' r=>have:=zkr hc hc';subst this;exact ih r
theorem zwx {s:ByteArray} {a b:Nat} (h:Skip s a b):a≤b∧b≤s.size:=by
 induction h with
 |done=>exact⟨Nat.le_refl _,Nat.le_refl _⟩
 |stop h _ _=>exact⟨Nat.le_refl _,by omega⟩
 |blank h _ _ ih=>exact⟨by omega,ih.2⟩
 |comment h _ hc _ ih=>exact⟨by have:=hc.1;omega,ih.2⟩
/-- What Lex tells from the place a on, n tokens being there: the tokens, or where it ends. -/
inductive Lx (s:ByteArray) (scr:Bool):Nat→Nat→Except Nat (List Tk)→Prop
 |done {n:Nat}:Lx s scr s.size n (.ok [])
 |bad {a n:Nat} (h:a<s.size) (h1:4000≤n∨∀t e,¬Tok s scr a t e):Lx s scr a n (.error a)
 |tok {a n e b:Nat} {t:Tk} {r:Except Nat (List Tk)} (h:a<s.size) (hn:n<4000) (ht:Tok s scr a t e) (hs:Skip s e b) (hr:Lx s scr b (n+1) r):Lx s scr a n (r.map (t:: ·))
theorem zbvr {s:ByteArray} {scr:Bool} {a n:Nat} {r1 r2:Except Nat (List Tk)} (h1:Lx s scr a n r1):Lx s scr a n r2→r1=r2:=by
 induction h1 generalizing r2 with
 |done=>
  intro h2
  generalize hx:s.size=x at h2
  cases h2 with
  |done=>rfl
  |bad h _=>omega
  |tok h _ _ _ _=>omega
 |bad h k=>
  intro h2
  cases h2 with
  |done=>exact absurd h (Nat.lt_irrefl _)
  |bad _ _=>rfl
  |tok _ hn ht _ _=>exact k.elim (fun k=>by omega) fun k=>absurd ht (k _ _)
 |tok h hn ht hs _ ih=>
  intro h2
  cases h2 with
  |done=>exact absurd h (Nat.lt_irrefl _)
  |bad _ k=>exact k.elim (fun k=>by omega) fun k=>absurd ht (k _ _)
  |tok _ _ ht' hs' r=>
   obtain⟨rfl,rfl⟩:=zbsb ht ht'
   have:=zban hs hs'
   subst this
   rw[ih r]
/-- What Lex tells of a text. -/
def LexR (s:ByteArray) (scr:Bool) (r:Except Nat (List Tk)):Prop:=∃a,Skip s 0 a∧Lx s scr a 0 r
theorem ztz {s:ByteArray} {scr:Bool} {r1 r2:Except Nat (List Tk)} (h1:LexR s scr r1) (h2:LexR s scr r2):r1=r2:=by
 obtain⟨a,s1,l1⟩:=h1
 obtain⟨b,s2,l2⟩:=h2
 have:=zban s1 s2
 subst this
 exact zbvr l1 l2
theorem zlh {c:Int} {scr:Bool} (h: ¬((97≤c∧c≤122)∨(65≤c∧c≤90)∨c=95∨(scr=true∧c=36))):letB c scr=false:=by
 rw[Bool.eq_false_iff]
 exact fun k=>h (ziq.1 k)
theorem zbgc {c:Int} (h: ¬(48≤c∧c≤57)):digB c=false:=decide_eq_false h
theorem zew (c:Int) (scr:Bool) (w:World) (h0:0≤c) (h1:c≤255):
  Calls Tryz.prog 166 #[.int .u8 c,.bool scr] w fun e w'=>e= .returned (.bool (letB c scr))∧w'=w:=by
 by_cases a1:97≤c
 ·by_cases a2:c≤122
  ·skip
   have d1:decide (97≤c)=true:=decide_eq_true (by omega)
   have d2:decide (c≤122)=true:=decide_eq_true (by omega)
   have HV:Hid (letB c scr=true):=ziq.2 (by first|omega|(simp;omega))
   go_enter Tryz.func166,Tryz.ntmps166
   go_wp2
   go_ret
   exact⟨zi HV.out.symm,rfl⟩
  ·skip
   cases scr with
   |true=>
    have d1:decide (97≤c)=true:=decide_eq_true (by omega)
    have d2:decide (c≤122)=false:=decide_eq_false (by omega)
    have d3:decide (65≤c)=true:=decide_eq_true (by omega)
    have d4:decide (c≤90)=false:=decide_eq_false (by omega)
    have e1:(c==95)=false:=beq_eq_false_iff_ne.2 (by omega)
    have e2:(c==36)=false:=beq_eq_false_iff_ne.2 (by omega)
    have HV:Hid (letB c true=false):=zlh (by first|omega|(simp;omega))
    go_enter Tryz.func166,Tryz.ntmps166
    go_wp2
    go_ret
    exact⟨zi HV.out.symm,rfl⟩
   |false=>
    have d1:decide (97≤c)=true:=decide_eq_true (by omega)
    have d2:decide (c≤122)=false:=decide_eq_false (by omega)
    have d3:decide (65≤c)=true:=decide_eq_true (by omega)
    have d4:decide (c≤90)=false:=decide_eq_false (by omega)
    have e1:(c==95)=false:=beq_eq_false_iff_ne.2 (by omega)
    have e2:(c==36)=false:=beq_eq_false_iff_ne.2 (by omega)
    have HV:Hid (letB c false=false):=zlh (by first|omega|(simp;omega))
    go_enter Tryz.func166,Tryz.ntmps166
    go_wp2
    go_ret
    exact⟨zi HV.out.symm,rfl⟩
 ·by_cases a3:65≤c
  ·by_cases a4:c≤90
   ·skip
    have d1:decide (97≤c)=false:=decide_eq_false (by omega)
    have d3:decide (65≤c)=true:=decide_eq_true (by omega)
    have d4:decide (c≤90)=true:=decide_eq_true (by omega)
    have HV:Hid (letB c scr=true):=ziq.2 (by first|omega|(simp;omega))
    go_enter Tryz.func166,Tryz.ntmps166
    go_wp2
    go_ret
    exact⟨zi HV.out.symm,rfl⟩
   ·by_cases a5:c=95
    ·skip
     have d1:decide (97≤c)=false:=decide_eq_false (by omega)
     have d3:decide (65≤c)=true:=decide_eq_true (by omega)
     have d4:decide (c≤90)=false:=decide_eq_false (by omega)
     have e1:(c==95)=true:=beq_iff_eq.2 (by omega)
     have HV:Hid (letB c scr=true):=ziq.2 (by first|omega|(simp;omega))
     clear a5
     go_enter Tryz.func166,Tryz.ntmps166
     go_wp2
     go_ret
     exact⟨zi HV.out.symm,rfl⟩
    ·skip
     cases scr with
     |true=>
      have d1:decide (97≤c)=false:=decide_eq_false (by omega)
      have d3:decide (65≤c)=true:=decide_eq_true (by omega)
      have d4:decide (c≤90)=false:=decide_eq_false (by omega)
      have e1:(c==95)=false:=beq_eq_false_iff_ne.2 (by omega)
      have e2:(c==36)=false:=beq_eq_false_iff_ne.2 (by omega)
      have HV:Hid (letB c true=false):=zlh (by first|omega|(simp;omega))
      go_enter Tryz.func166,Tryz.ntmps166
      go_wp2
      go_ret
      exact⟨zi HV.out.symm,rfl⟩
     |false=>
      have d1:decide (97≤c)=false:=decide_eq_false (by omega)
      have d3:decide (65≤c)=true:=decide_eq_true (by omega)
      have d4:decide (c≤90)=false:=decide_eq_false (by omega)
      have e1:(c==95)=false:=beq_eq_false_iff_ne.2 (by omega)
      have e2:(c==36)=false:=beq_eq_false_iff_ne.2 (by omega)
      have HV:Hid (letB c false=false):=zlh (by first|omega|(simp;omega))
      go_enter Tryz.func166,Tryz.ntmps166
      go_wp2
      go_ret
      exact⟨zi HV.out.symm,rfl⟩
  ·by_cases a6:c=36
   ·skip
    cases scr with
    |true=>
     have d1:decide (97≤c)=false:=decide_eq_false (by omega)
     have d3:decide (65≤c)=false:=decide_eq_false (by omega)
     have e1:(c==95)=false:=beq_eq_false_iff_ne.2 (by omega)
     have e2:(c==36)=true:=beq_iff_eq.2 (by omega)
     have HV:Hid (letB c true=true):=ziq.2 (by first|omega|(simp;omega))
     clear a6
     go_enter Tryz.func166,Tryz.ntmps166
     go_wp2
     go_ret
     exact⟨zi HV.out.symm,rfl⟩
    |false=>
     have d1:decide (97≤c)=false:=decide_eq_false (by omega)
     have d3:decide (65≤c)=false:=decide_eq_false (by omega)
     have e1:(c==95)=false:=beq_eq_false_iff_ne.2 (by omega)
     have e2:(c==36)=true:=beq_iff_eq.2 (by omega)
     have HV:Hid (letB c false=false):=zlh (by first|omega|(simp;omega))
     clear a6
     go_enter Tryz.func166,Tryz.ntmps166
     go_wp2
     go_ret
     exact⟨zi HV.out.symm,rfl⟩
   ·skip
    cases scr with
    |true=>
     have d1:decide (97≤c)=false:=decide_eq_false (by omega)
     have d3:decide (65≤c)=false:=decide_eq_false (by omega)
     have e1:(c==95)=false:=beq_eq_false_iff_ne.2 (by omega)
     have e2:(c==36)=false:=beq_eq_false_iff_ne.2 (by omega)
     have HV:Hid (letB c true=false):=zlh (by first|omega|(simp;omega))
     go_enter Tryz.func166,Tryz.ntmps166
     go_wp2
     go_ret
     exact⟨zi HV.out.symm,rfl⟩
    |false=>
     have d1:decide (97≤c)=false:=decide_eq_false (by omega)
     have d3:decide (65≤c)=false:=decide_eq_false (by omega)
     have e1:(c==95)=false:=beq_eq_false_iff_ne.2 (by omega)
     have e2:(c==36)=false:=beq_eq_false_iff_ne.2 (by omega)
     have HV:Hid (letB c false=false):=zlh (by first|omega|(simp;omega))
     go_enter Tryz.func166,Tryz.ntmps166
     go_wp2
     go_ret
     exact⟨zi HV.out.symm,rfl⟩
theorem zdq (c:Int) (w:World) (h0:0≤c) (h1:c≤255):
  Calls Tryz.prog 168 #[.int .u8 c] w fun e w'=>e= .returned (.bool (digB c))∧w'=w:=by
 by_cases a1:48≤c
 ·have d1:decide (48≤c)=true:=decide_eq_true a1
  by_cases a2:c≤57
  ·have d2:decide (c≤57)=true:=decide_eq_true a2
   have HV:Hid (digB c=true):=zei.2 ⟨a1,a2⟩
   go_enter Tryz.func168,Tryz.ntmps168
   go_wp2
   go_ret
   exact⟨zi HV.out.symm,rfl⟩
  ·have d2:decide (c≤57)=false:=decide_eq_false a2
   have HV:Hid (digB c=false):=zbgc (by omega)
   go_enter Tryz.func168,Tryz.ntmps168
   go_wp2
   go_ret
   exact⟨zi HV.out.symm,rfl⟩
 ·have d1:decide (48≤c)=false:=decide_eq_false a1
  have HV:Hid (digB c=false):=zbgc (by omega)
  go_enter Tryz.func168,Tryz.ntmps168
  go_wp2
  go_ret
  exact⟨zi HV.out.symm,rfl⟩
def signS:ByteArray:={data:=#[123,125,40,41,44,59,61,46,42,43,45]}
theorem zbou (k:Nat) (h:k<11):Sign (bt signS k):=by
 have: ∀k:Fin 11,Sign (bt signS k.val):=by decide
 exact this ⟨k,h⟩
theorem zbla (c:Int) (h:Sign c): ∃k,k<11∧bt signS k=c:=by
 rcases h with rfl|rfl|rfl|rfl|rfl|rfl|rfl|rfl|rfl|rfl|rfl
 ·exact⟨0,by decide⟩
 ·exact⟨1,by decide⟩
 ·exact⟨2,by decide⟩
 ·exact⟨3,by decide⟩
 ·exact⟨4,by decide⟩
 ·exact⟨5,by decide⟩
 ·exact⟨6,by decide⟩
 ·exact⟨7,by decide⟩
 ·exact⟨8,by decide⟩
 ·exact⟨9,by decide⟩
 ·exact⟨10,by decide⟩
def zvk (c:Int):Bool:=decide (Sign c)
theorem zxv (c:Int) (w:World):
  Calls Tryz.prog 171 #[.int .u8 c] w fun e w'=>e= .returned (.bool (zvk c))∧w'=w:=by
 have hb:=get_bt signS
 have hsz:signS.size=11:=rfl
 obtain⟨S,hS⟩: ∃S,signS=S:=⟨_,rfl⟩
 have HS:Hid (signS=S):=hS
 rw[hS] at hb hsz
 go_enter Tryz.func171,Tryz.ntmps171
 go_wp2
 rw[show ({data:=#[123,125,40,41,44,59,61,46,42,43,45]}:ByteArray)=S from hS]
 clear hS
 go_loop [4] (fun i=>∃k:Nat,k≤11∧i= .int .i64 k∧∀j,j<k→bt S j≠c) (fun i=>(11-intOf i).toNat)
 case atStart=>exact⟨0,by omega,rfl,fun j hj=>absurd hj (Nat.not_lt_zero j)⟩
 case round=>
  obtain⟨k,hk,rfl,hno⟩:=hrel
  have HNO:Hid (∀j,j<k→bt S j≠c):=hno
  clear hno
  by_cases hlt:k<11
  ·by_cases hc:bt S k=c
   ·have hq:(bt S k==c)=true:=by simpa using hc
    have HV:Hid (zvk c=true):=decide_eq_true (by rw[←hc,←HS.out];exact zbou k hlt)
    clear hc
    go_wp2
    go_ret
    exact⟨zi HV.out.symm,rfl⟩
   ·have hq:(bt S k==c)=false:=by simpa using hc
    have HX:Hid (∀j,j<k+1→bt S j≠c):=fun j hj=>by
     by_cases e:j=k
     ·rw[e];exact hc
     ·exact HNO.out j (by omega)
    clear hc
    go_wp2
    go_round
    case rel=>exact⟨k+1,by omega,by go_num,HX.out⟩
    case measure=>simp[intOf];omega
  ·have HV:Hid (zvk c=false):=decide_eq_false (fun h=>by
    obtain⟨j,hj,e⟩:=zbla c h
    rw[HS.out] at e
    exact HNO.out j (by omega) e)
   go_wp2
   go_ret
   exact⟨zi HV.out.symm,rfl⟩
theorem zha (k:Nat):(0:Int)<10^k:=Int.pow_pos (by omega)
theorem zmt (k:Nat):(10:Int)^(k+1)=10^k*10:=Int.pow_succ _ _
theorem zks {a b:Nat} (h:a≤b):(10:Int)^a≤10^b:=by
 induction b with
 |zero=>
  obtain rfl:a=0:=by omega
  exact Int.le_refl _
 |succ b ih=>
  by_cases e:a=b+1
  ·rw[e];exact Int.le_refl _
  ·have:=ih (by omega)
   have:=zha b
   rw[zmt]
   omega
theorem zpr (n:Int) (k:Nat):n/10^k/10=n/10^(k+1):=by
 rw[zmt,Int.ediv_ediv_of_nonneg (Int.le_of_lt (zha k))]
theorem zli (n:Int) (k:Nat) (h:0≤n):0≤n/10^k∧n/10^k≤n:=
 ⟨Int.ediv_nonneg h (Int.le_of_lt (zha k)),Int.ediv_le_self _ h⟩
/-- How many digits; f + 1 at most. -/
def dc:Nat→Int→Nat
 |0,_=>1
 |f+1,q=>if q<10 then 1 else dc f (q/10)+1
theorem zbov (f:Nat) (q:Int) (h0:0≤q) (h:q<10^(f+1)):1≤dc f q∧dc f q≤f+1∧q<10^dc f q∧(dc f q=1∨10^(dc f q-1)≤q):=by
 induction f generalizing q with
 |zero=>simpa [dc] using h
 |succ f ih=>
  unfold dc
  by_cases hq:q<10
  ·rw[if_pos hq]
   exact⟨by omega,by omega,by simpa using hq,.inl rfl⟩
  ·rw[if_neg hq]
   obtain⟨a,b,c,d⟩:=ih (q/10) (by omega) (by rw[zmt] at h;omega)
   refine⟨by omega,by omega,?_,.inr ?_⟩
   ·rw[zmt];omega
   ·rw[Nat.add_sub_cancel]
    rcases d with d|d
    ·rw[d]
     show (10:Int)^1≤q
     rw[show (10:Int)^1=10 from by decide]
     omega
    ·rw[show dc f (q/10)=(dc f (q/10)-1)+1 from by omega,zmt]
     omega
/-- How many digits a number below 2^64 has. -/
def dcn (m:Int):Nat:=dc 19 m
theorem zfu (m:Int) (h0:0≤m) (h:m≤18446744073709551615):1≤dcn m∧dcn m≤20∧m<10^dcn m∧(dcn m=1∨10^(dcn m-1)≤m):=
 zbov 19 m h0 (by rw[show (10:Int)^(19+1)=100000000000000000000 by decide];omega)
theorem zbow (m:Int) (h0:0≤m) (h:m≤18446744073709551615) (k:Nat):10≤m/10^k↔k+1<dcn m:=by
 obtain⟨a,b,c,d⟩:=zfu m h0 h
 rw[Int.le_ediv_iff_mul_le (zha k),Int.mul_comm,←zmt]
 constructor
 ·intro hk
  rcases Nat.lt_or_ge (k+1) (dcn m) with e|e
  ·exact e
  ·have:=zks e
   omega
 ·intro hk
  have:=zks (show k+1≤dcn m-1 by omega)
  omega
theorem zbao (m:Int) (h0:1≤m) (h:m≤18446744073709551615) (k:Nat):m/10^k≠0↔k<dcn m:=by
 obtain⟨a,b,c,d⟩:=zfu m (by omega) h
 have hb:=zli m k (by omega)
 have:m/10^k≠0↔1≤m/10^k:=by omega
 rw[this,Int.le_ediv_iff_mul_le (zha k),Int.one_mul]
 constructor
 ·intro hk
  rcases Nat.lt_or_ge k (dcn m) with e|e
  ·exact e
  ·have:=zks e
   omega
 ·intro hk
  have:=zks (show k≤dcn m-1 by omega)
  rcases d with d|d
  ·obtain rfl:k=0:=by omega
   simpa using h0
  ·omega
/-- The lowest k digits, the highest first. -/
def dgk (m:Int):Nat→List Int
 |0=>[]
 |k+1=>(48+m/10^k%10)::dgk m k
theorem zdr (m:Int) (k:Nat):(dgk m k).length=k:=by
 induction k with
 |zero=>rfl
 |succ k ih=>simp[dgk,ih]
theorem zbap (m:Int) (c k:Nat) (h:k<c):(dgk m c)[c-1-k]? =some (48+m/10^k%10):=by
 induction c with
 |zero=>omega
 |succ c ih=>
  by_cases e:k=c
  ·subst e
   rw[show k+1-1-k=0 from by omega]
   rfl
  ·rw[show c+1-1-k=(c-1-k)+1 from by omega,dgk,List.getElem?_cons_succ]
   exact ih (by omega)
def absI (n:Int):Int:=if n<0 then-n else n
/-- The decimal text of n. -/
def decL (n:Int):List Int:=(if n<0 then [45] else [])++dgk (absI n) (dcn (absI n))
theorem zua {n:Int} (h:n<0):decL n=45::dgk (-n) (dcn (-n)):=by simp[decL,h,absI]
theorem zps {n:Int} (h:0≤n):decL n=dgk n (dcn n):=by
 have: ¬n<0:=by omega
 simp[decL,this,absI]
theorem zzh (L:List Int):zgs L L.length=L:=by simp[zgs]
theorem zzi (x:Int) (L:List Int):(zgs (x::L) L.length).set 0 x=x::L:=by
 simp[zgs]
theorem zbsc (p:List Int) (m:Int) (c k:Nat) (h:k<c):(p++dgk m c)[(p++dgk m c).length-1-k]? =some (48+m/10^k%10):=by
 rw[List.length_append,zdr,List.getElem?_append_right (by omega),show p.length+c-1-k-p.length=c-1-k from by omega]
 exact zbap m c k h
theorem Tryz.infoByte:(Tryz.prog.info? 5).map (fun i=>(i.zero,i.size,i.bytes))=some (some (.int .u8 0),1,1):=by kernel_rfl
theorem zoy (m:Int) (w:World) (h0:0≤m) (h1:m≤18446744073709551615):
  Calls Tryz.prog 319 #[.int .u64 m] w fun e w'=>e= .returned (.int .i64 (dcn m))∧w'=w:=by
 have hd:=zfu m h0 h1
 have hd1:dcn m≤20:=hd.2.1
 have hd0:1≤dcn m:=hd.1
 clear hd
 go_enter Tryz.func319,Tryz.ntmps319
 go_wp2
 go_loop [0,3] (fun a c=>∃k:Nat,k+1≤dcn m∧a= .int .u64 (m/10^k)∧c= .int .i64 ((k:Int)+1)) (fun a _=>(intOf a).toNat)
 case atStart=>exact⟨0,hd0,by simp,rfl⟩
 case round=>
  obtain⟨k,hk,rfl,rfl⟩:=hrel
  have hb:=zli m k h0
  have hm:=zbow m h0 h1 k
  by_cases hlt:10≤m/10^k
  ·have hk2:=hm.1 hlt
   clear hm
   go_wp2
   go_round
   case rel=>exact⟨k+1,by omega,by rw[zpr],by go_num⟩
   case measure=>simp[intOf];omega
  ·have hk2: ¬(k+1<dcn m):=fun h=>hlt (hm.2 h)
   clear hm
   go_wp2
   go_ret
   exact⟨znd (by omega),rfl⟩
theorem zbaq (n:Int) (w:World) (h0:0≤n) (h1:n≤9223372036854775807):
  Calls Tryz.prog 297 #[.int .i64 n] w fun e w'=>e= .returned (.string (strOfNums (dgk n (dcn n))))∧Below w.heap.size w w':=by
 obtain⟨i0,hi,hz0,hz1,hz2⟩:=info_parts Tryz.infoByte
 have hd:=zfu n h0 (by omega)
 have hd1:dcn n≤20:=hd.2.1
 have hd0:1≤dcn n:=hd.1
 clear hd
 go_enter Tryz.func297,Tryz.ntmps297
 go_wp2_with (first|(go_at_call 319;refine (zoy _ _ (by omega) (by omega)).mono ?_;rintro e w' ⟨rfl,rfl⟩)|(at_make;refine wpList_make_full _ rfl _ _ 49 rfl w'.heap.size 5 i0 (.int .u8 0) 1 Tryz.underlying49 hi hz0 hz1 _ _ _ _ (dcn n) rfl rfl (by omega) (by omega) ?b2 ?b3 ?b4 ?_))
 case b2=>rw[hz2];omega
 case b3=>unfold maxLen;omega
 case b4=>exact Nat.le_refl _
 intro w1 hown hgrow
 have hbel:=(Below.refl w'.heap.size w').grown hgrow (Nat.le_refl _) (by intro k hk;cases hk)
 rw[toList_madeCells_one] at hown
 clear hgrow
 go_wp2
 go_loopw [3,7,21] (fun r _ i wr=>∃k:Nat,k≤dcn n∧i= .int .i64 k∧r= .int .u64 (n/10^k)∧OwnB wr w'.heap.size 5 (.slice (some ⟨w'.heap.size,0,none⟩) (dcn n) (dcn n)) (dcn n) (zgs (dgk n (dcn n)) k)∧Below w'.heap.size w' wr) (fun _ _ i _=>dcn n-(intOf i).toNat)
 case atStart=>exact⟨0,by omega,rfl,by simp,by unfold OwnB;rw[zrf,zdr,List.map_replicate];exact hown,hbel⟩
 case round=>
  obtain⟨k,hk,rfl,rfl,hown',hbel'⟩:=hrel
  clear hown hbel
  have hb:=zli n k h0
  by_cases hlt:k<dcn n
  ·obtain⟨v,hv⟩:=ztw hown' (dcn n-1-k) (by omega)
   have hf:=ztx hown' (dcn n-1-k)
   have HO:=zww hown' (dcn n-1-k) (48+n/10^k%10)
   have HS:=zrl (dgk n (dcn n)) k (48+n/10^k%10) (by rw[zdr];exact hlt) (by rw[zdr];exact zbap n _ k hlt)
   rw[zdr] at HS
   rw[HS] at HO
   clear HS hown'
   go_wp2
   go_roundw
   case rel=>exact⟨k+1,by omega,by go_num,by rw[zpr],HO,hbel'.setCell (Nat.le_refl _) _⟩
   case measure=>simp[intOf];omega
  ·have HF:=zzh (dgk n (dcn n))
   rw[zdr] at HF
   rw[show k=dcn n from by omega,HF] at hown'
   clear HF
   have hst:=zlc (P:=Tryz.prog) (src:=49) (dst:=9) Tryz.underlying49 Tryz.underlying5 Tryz.underlying9 hown'
   go_wp2
   go_ret
   exact⟨rfl,hbel'⟩
theorem zbox (m:Int) (h0:0<m) (h1:m≤9223372036854775808):IntKind.u64.wrap (-IntKind.u64.wrap (-m))=m:=by
 rw[IntKind.wrap_u64,IntKind.wrap_u64];omega
theorem zbar (m:Int) (w:World) (h0:0<m) (h1:m≤9223372036854775808):
  Calls Tryz.prog 297 #[.int .i64 (-m)] w fun e w'=>e= .returned (.string (strOfNums (45::dgk m (dcn m))))∧Below w.heap.size w w':=by
 obtain⟨i0,hi,hz0,hz1,hz2⟩:=info_parts Tryz.infoByte
 have hd:=zfu m (by omega) (by omega)
 have hd1:dcn m≤20:=hd.2.1
 have hd0:1≤dcn m:=hd.1
 clear hd
 have hu:=zbox m h0 h1
 go_enter Tryz.func297,Tryz.ntmps297
 go_wp2_with (first|(go_at_call 319;refine (zoy _ _ (by omega) (by omega)).mono ?_;rintro e w' ⟨rfl,rfl⟩)|(at_make;refine wpList_make_full _ rfl _ _ 49 rfl w'.heap.size 5 i0 (.int .u8 0) 1 Tryz.underlying49 hi hz0 hz1 _ _ _ _ (dcn m+1) rfl rfl (by omega) (by omega) ?b2 ?b3 ?b4 ?_))
 case b2=>rw[hz2];omega
 case b3=>unfold maxLen;omega
 case b4=>exact Nat.le_refl _
 intro w1 hown hgrow
 have hbel:=(Below.refl w'.heap.size w').grown hgrow (Nat.le_refl _) (by intro k hk;cases hk)
 rw[toList_madeCells_one] at hown
 clear hgrow
 have hlen:(45::dgk m (dcn m)).length=dcn m+1:=by rw[List.length_cons,zdr]
 have HL:Hid ((45::dgk m (dcn m)).length=dcn m+1):=hlen
 clear hlen
 go_wp2
 go_loopw [3,7,21] (fun r _ i wr=>∃k:Nat,k≤dcn m∧i= .int .i64 k∧r= .int .u64 (m/10^k)∧OwnB wr w'.heap.size 5 (.slice (some ⟨w'.heap.size,0,none⟩) (dcn m+1) (dcn m+1)) (dcn m+1) (zgs (45::dgk m (dcn m)) k)∧Below w'.heap.size w' wr) (fun _ _ i _=>dcn m-(intOf i).toNat)
 case atStart=>exact⟨0,by omega,rfl,by simp,by unfold OwnB;rw[zrf,HL.out,List.map_replicate];exact hown,hbel⟩
 case round=>
  obtain⟨k,hk,rfl,rfl,hown',hbel'⟩:=hrel
  clear hown hbel hu
  have hb:=zli m k (by omega)
  by_cases hlt:k<dcn m
  ·obtain⟨v,hv⟩:=ztw hown' (dcn m-k) (by omega)
   have hf:=ztx hown' (dcn m-k)
   have HO:=zww hown' (dcn m-k) (48+m/10^k%10)
   have HS:=zrl (45::dgk m (dcn m)) k (48+m/10^k%10) (by rw[HL.out];omega) (zbsc [45] m (dcn m) k hlt)
   rw[HL.out,show dcn m+1-1-k=dcn m-k from by omega] at HS
   rw[HS] at HO
   clear HS hown'
   go_wp2
   go_roundw
   case rel=>exact⟨k+1,by omega,by go_num,by rw[zpr],HO,hbel'.setCell (Nat.le_refl _) _⟩
   case measure=>simp[intOf];omega
  ·have HF:=zzi 45 (dgk m (dcn m))
   rw[zdr] at HF
   rw[show k=dcn m from by omega] at hown'
   obtain⟨v,hv⟩:=ztw hown' 0 (by omega)
   have hf:=ztx hown' 0
   have HO:=zww hown' 0 45
   rw[HF] at HO
   clear HF hown'
   have hst:=zlc (P:=Tryz.prog) (src:=49) (dst:=9) Tryz.underlying49 Tryz.underlying5 Tryz.underlying9 HO
   go_wp2
   go_ret
   exact⟨rfl,hbel'.setCell (Nat.le_refl _) _⟩
theorem zboy (n:Int) (w:World) (hb: -9223372036854775808≤n∧n≤9223372036854775807):
  Calls Tryz.prog 297 #[.int .i64 n] w fun e w'=>e= .returned (.string (strOfNums (decL n)))∧Below w.heap.size w w':=by
 by_cases h:0≤n
 ·rw[zps h]
  exact zbaq n w h hb.2
 ·obtain⟨m,rfl⟩: ∃m,n= -m:=⟨-n,by omega⟩
  rw[zua (by omega),Int.neg_neg]
  exact zbar m w (by omega) (by omega)
theorem neg_tmod (q:Int) (h:0≤q):(-q).tmod 10= -(q%10):=by rw[Int.neg_tmod,Int.tmod_eq_emod_of_nonneg h]
theorem neg_tdiv (q:Int) (h:0≤q):(-q).tdiv 10= -(q/10):=by rw[Int.neg_tdiv,Int.tdiv_eq_ediv_of_nonneg h]
theorem zbas (n:Int) (w:World) (h0:0<n) (h1:n≤9223372036854775807):
  Calls Tryz.prog 43 #[.int .i64 n] w fun e w'=>e= .returned (.string (strOfNums (dgk n (dcn n))))∧Below w.heap.size w w':=by
 have hd:=zfu n (by omega) (by omega)
 have hd1:dcn n≤20:=hd.2.1
 have hd0:1≤dcn n:=hd.1
 have hne:(n==0)=false:=by simp;omega
 have hlt0: ¬n<0:=by omega
 clear hd
 go_enter Tryz.func43,Tryz.ntmps43
 go_wp2
 go_loopw [0,3,5] (fun a o _ wr=>∃k:Nat,k≤dcn n∧a= .int .i64 (n/10^k)∧o= .string (strOfNums (dgk n k))∧Below w.heap.size w wr) (fun a _ _ _=>(intOf a).toNat)
 case atStart=>exact⟨0,by omega,by simp,rfl,Below.refl _ _⟩
 case round=>
  obtain⟨k,hk,rfl,rfl,hbel⟩:=hrel
  have hb:=zli n k (by omega)
  have hi:=zbao n (by omega) (by omega) k
  have hsz:(strOfNums (dgk n k)).size≤20:=by rw[strOfNums_size,zdr];omega
  by_cases hz:n/10^k=0
  ·have hk2: ¬(k<dcn n):=fun h=>hi.2 h hz
   have hz':(n/10^k !=0)=false:=by simpa using hz
   clear hi hz
   go_wp2
   go_ret
   exact⟨zkf (by rw[show dcn n=k from by omega]),hbel⟩
  ·have hk2:=hi.1 hz
   have hz':(n/10^k !=0)=true:=by simpa using hz
   have hz2:0<n/10^k:=by omega
   clear hi hz
   have hst:=fun (w:World) (x:Int)=>zld (P:=Tryz.prog) (src:=49) (dst:=9) Tryz.underlying49 Tryz.underlying5 Tryz.underlying9 w x
   have hone:=fun x=>strOfNums_size [x]
   go_wp2
   go_roundw
   case rel=>exact⟨k+1,by omega,by rw[zpr],by rw[zix];rfl,hbel.alloc hbel.size _⟩
   case measure=>simp[intOf];omega
theorem zbat (m:Int) (w:World) (h0:0<m) (h1:m≤9223372036854775808):
  Calls Tryz.prog 43 #[.int .i64 (-m)] w fun e w'=>e= .returned (.string (strOfNums (45::dgk m (dcn m))))∧Below w.heap.size w w':=by
 have hd:=zfu m (by omega) (by omega)
 have hd1:dcn m≤20:=hd.2.1
 have hd0:1≤dcn m:=hd.1
 have hne:(-m==0)=false:=by simp;omega
 clear hd
 go_enter Tryz.func43,Tryz.ntmps43
 go_wp2
 go_loopw [0,3,5] (fun a o _ wr=>∃k:Nat,k≤dcn m∧a= .int .i64 (-(m/10^k))∧o= .string (strOfNums (dgk m k))∧Below w.heap.size w wr) (fun a _ _ _=>(-(intOf a)).toNat)
 case atStart=>exact⟨0,by omega,by simp,rfl,Below.refl _ _⟩
 case round=>
  obtain⟨k,hk,rfl,rfl,hbel⟩:=hrel
  have hb:=zli m k (by omega)
  have hi:=zbao m (by omega) (by omega) k
  have hsz:(strOfNums (dgk m k)).size≤20:=by rw[strOfNums_size,zdr];omega
  by_cases hz:m/10^k=0
  ·have hk2: ¬(k<dcn m):=fun h=>hi.2 h hz
   have hz':(-(m/10^k) !=0)=false:=by simpa using hz
   have hmin:(strOfNums [45]).size=1:=strOfNums_size [45]
   clear hi hz
   go_wp2
   go_ret
   exact⟨zkf (by rw[show dcn m=k from by omega];exact zix 45 _),hbel⟩
  ·have hk2:=hi.1 hz
   have hz':(-(m/10^k) !=0)=true:=by simpa using hz
   have hz2:0<m/10^k:=by omega
   clear hi hz
   have e1:=neg_tmod (m/10^k) hb.1
   have e2:=neg_tdiv (m/10^k) hb.1
   have hst:=fun (w:World) (x:Int)=>zld (P:=Tryz.prog) (src:=49) (dst:=9) Tryz.underlying49 Tryz.underlying5 Tryz.underlying9 w x
   have hone:=fun x=>strOfNums_size [x]
   by_cases hd:0<m/10^k%10
   ·go_wp2
    go_roundw
    case rel=>exact⟨k+1,by omega,by rw[zpr],by rw[zix];rfl,hbel.alloc hbel.size _⟩
    case measure=>simp[intOf];omega
   ·go_wp2
    go_roundw
    case rel=>exact⟨k+1,by omega,by rw[zpr],by rw[zix,show 48+ -(m/10^k%10)=48+m/10^k%10 from by omega];rfl,hbel.alloc hbel.size _⟩
    case measure=>simp[intOf];omega
theorem zub (n:Int) (w:World) (hb: -9223372036854775808≤n∧n≤9223372036854775807):
  Calls Tryz.prog 43 #[.int .i64 n] w fun e w'=>e= .returned (.string (strOfNums (decL n)))∧Below w.heap.size w w':=by
 by_cases h:0<n
 ·rw[zps (by omega)]
  exact zbas n w h hb.2
 ·by_cases hz:n=0
  ·subst hz
   have HV:Hid (decL 0=[48]):=by show decL 0=[48];decide
   go_enter Tryz.func43,Tryz.ntmps43
   go_wp2
   go_ret
   exact⟨zkf (by rw[HV.out];rfl),Below.refl _ _⟩
  ·obtain⟨m,rfl⟩: ∃m,n= -m:=⟨-n,by omega⟩
   rw[zua (by omega),Int.neg_neg]
   exact zbat m w (by omega) (by omega)
structure Ex where
 kind:Int
 num:Int
 name:ByteArray
 field:ByteArray
 l:Int
 r:Int
structure Sm where
 kind:Int
 name:ByteArray
 expr:Int
structure Im where
 spec:ByteArray
 first:ByteArray
 loc:ByteArray
structure Ep where
 kind:Int
 name:ByteArray
 loc:ByteArray
 spec:ByteArray
structure Cx where
 ts:List Tk
 fin:Nat
 scr:Bool
structure PS where
 pos:Nat
 rq:List ByteArray
 im:List Im
 ep:List Ep
 st:List Sm
 ex:List Ex
 la:List Ep
abbrev PR:=Except Nat PS
abbrev sNone:ByteArray:={data:=#[]}
abbrev sImport:ByteArray:={data:=#[105,109,112,111,114,116]}
abbrev sExport:ByteArray:={data:=#[101,120,112,111,114,116]}
abbrev sDefault:ByteArray:={data:=#[100,101,102,97,117,108,116]}
abbrev sLet:ByteArray:={data:=#[108,101,116]}
abbrev sFunction:ByteArray:={data:=#[102,117,110,99,116,105,111,110]}
abbrev ziz:ByteArray:={data:=#[114,101,116,117,114,110]}
abbrev sPrint:ByteArray:={data:=#[112,114,105,110,116]}
abbrev sThrow:ByteArray:={data:=#[116,104,114,111,119]}
abbrev sFail:ByteArray:={data:=#[102,97,105,108]}
abbrev sUndef:ByteArray:={data:=#[117,110,100,101,102]}
abbrev sAs:ByteArray:={data:=#[97,115]}
abbrev zbl:ByteArray:={data:=#[102,114,111,109]}
abbrev zde:ByteArray:={data:=#[42,100,101,102,97,117,108,116]}
abbrev cOpen:ByteArray:={data:=#[40]}
abbrev zbw:ByteArray:={data:=#[41]}
abbrev zw:ByteArray:={data:=#[42]}
abbrev zfo:ByteArray:={data:=#[43]}
abbrev zet:ByteArray:={data:=#[44]}
abbrev zcy:ByteArray:={data:=#[45]}
abbrev cPoint:ByteArray:={data:=#[46]}
abbrev cSemi:ByteArray:={data:=#[59]}
abbrev cEq:ByteArray:={data:=#[61]}
abbrev zbj:ByteArray:={data:=#[123]}
abbrev zcz:ByteArray:={data:=#[125]}
def bd {α β:Type} (x:Except Nat α) (f:α→Except Nat β):Except Nat β:=
 match x with
 | .ok a=>f a
 | .error e=>.error e
theorem zg {α β:Type} (a:α) (f:α→Except Nat β):bd (.ok a) f=f a:=rfl
theorem zjr {α β:Type} (e:Nat) (f:α→Except Nat β):bd (.error e) f= .error e:=rfl
theorem zbt {α β γ:Type} (x:Except Nat α) (f:α→Except Nat β) (g:β→Except Nat γ):bd (bd x f) g=bd x fun a=>bd (f a) g:=by cases x<;>rfl
theorem zbd {α β:Type} {x:Except Nat α} {f g:α→Except Nat β} (h: ∀a,x= .ok a→f a=g a):bd x f=bd x g:=by
 cases x with
 |ok a=>exact h a rfl
 |error e=>rfl
theorem zc {α β:Type} {x:Except Nat α} {f:α→Except Nat β} {b:β} (h:bd x f= .ok b): ∃a,x= .ok a∧f a= .ok b:=by
 cases x with
 |ok a=>exact⟨a,rfl,h⟩
 |error e=>cases h
def zd (C:Cx) (i:Nat):Tk:=C.ts.getD i ⟨0,sNone,0,C.fin⟩
def here (C:Cx) (i:Nat):Nat:=(zd C i).pos
def isT (C:Cx) (i:Nat) (k:Int) (x:ByteArray):Bool:=((zd C i).kind==k)&&((zd C i).text.toList==x.toList)
def adv (q:PS):PS:={q with pos:=q.pos+1}
def tokP (C:Cx) (k:Int) (x:ByteArray) (q:PS):PR:=if isT C q.pos k x then .ok (adv q) else .error (here C q.pos)
def resB (x:ByteArray) (scr:Bool):Bool:=
 x.toList==[105,109,112,111,114,116]||x.toList==[101,120,112,111,114,116]||x.toList==[100,101,102,97,117,108,116]||x.toList==[108,101,116]||x.toList==[102,117,110,99,116,105,111,110]||x.toList==[114,101,116,117,114,110]||x.toList==[112,114,105,110,116]||x.toList==[116,104,114,111,119]
  ||((x.toList==[102,97,105,108]||x.toList==[117,110,100,101,102])&&scr)
def plainB (C:Cx) (i:Nat) (o:Bool):Bool:=((zd C i).kind==1)&&(!resB (zd C i).text C.scr||(o&&((zd C i).text.toList==[100,101,102,97,117,108,116])))
def zk (C:Cx) (o:Bool) (q:PS):Except Nat (PS×ByteArray):=if plainB C q.pos o then .ok (adv q,(zd C q.pos).text) else .error (here C q.pos)
def hasS (l:List ByteArray) (x:ByteArray):Bool:=l.any fun y=>y.toList==x.toList
def zbf (C:Cx) (q:PS):Except Nat (PS×ByteArray):=
 if (zd C q.pos).kind==3 then
  if hasS q.rq (zd C q.pos).text then .ok (adv q,(zd C q.pos).text)
  else if 40≤q.rq.length then .error (here C q.pos)
  else .ok ({adv q with rq:=q.rq++[(zd C q.pos).text]},(zd C q.pos).text)
 else .error (here C q.pos)
def zbx (C:Cx) (x:Im) (q:PS):PR:=if 40≤q.im.length then .error (here C (q.pos-1)) else .ok {q with im:=q.im++[x]}
def zo (C:Cx) (x:Ep) (q:PS):PR:=
 if 40≤q.ep.length+q.la.length then .error (here C (q.pos-1))
 else if x.loc.toList==[42,100,101,102,97,117,108,116] then .ok {q with la:=q.la++[x]} else .ok {q with ep:=q.ep++[x]}
def zbi (C:Cx) (k:Int) (n:ByteArray) (q:PS):PR:=if 80≤q.st.length then .error (here C (q.pos-1)) else .ok {q with st:=q.st++[⟨k,n,(q.ex.length:Int)-1⟩]}
def zbm (C:Cx) (x:Ex) (q:PS):PR:=if 300≤q.ex.length then .error (here C (q.pos-1)) else .ok {q with ex:=q.ex++[x]}
def zcr (C:Cx) (n:ByteArray) (q:PS):PR:=
 if isT C q.pos 4 cOpen then bd (bd (tokP C 4 cOpen q) (tokP C 4 zbw)) (zbm C ⟨3,0,n,sNone,0,0⟩) else zbm C ⟨2,0,n,sNone,0,0⟩ q
def memP (C:Cx) (n f:ByteArray) (q:PS):PR:=
 if isT C q.pos 4 cOpen then bd (bd (tokP C 4 cOpen q) (tokP C 4 zbw)) (zbm C ⟨5,0,n,f,0,0⟩) else zbm C ⟨4,0,n,f,0,0⟩ q
inductive NT
 |sum
 |sumT
 |prod
 |prodT
 |part
def zeu (C:Cx) (i:Nat):Int:=if isT C i 4 zcy then 7 else 6
/-- Expressions, with so many steps of reading at hand. -/
def ev (C:Cx):Nat→NT→Nat→PS→PR
 |0,_,_,_=>.error 0
 |f+1,.sum,d,q=>bd (ev C f .prod d q) (ev C f .sumT d)
 |f+1,.sumT,d,q=>
  if isT C q.pos 4 zfo||isT C q.pos 4 zcy then
   bd (bd (ev C f .prod d (adv q)) fun q'=>zbm C ⟨zeu C q.pos,0,sNone,sNone,(q.ex.length:Int)-1,(q'.ex.length:Int)-1⟩ q') (ev C f .sumT d)
  else .ok q
 |f+1,.prod,d,q=>bd (ev C f .part d q) (ev C f .prodT d)
 |f+1,.prodT,d,q=>
  if isT C q.pos 4 zw then
   bd (bd (ev C f .part d (adv q)) fun q'=>zbm C ⟨8,0,sNone,sNone,(q.ex.length:Int)-1,(q'.ex.length:Int)-1⟩ q') (ev C f .prodT d)
  else .ok q
 |f+1,.part,d,q=>
  if (zd C q.pos).kind==2 then zbm C ⟨1,(zd C q.pos).num,sNone,sNone,0,0⟩ (adv q)
  else if isT C q.pos 4 cOpen then
   if 20≤d then .error (here C q.pos) else bd (ev C f .sum (d+1) (adv q)) (tokP C 4 zbw)
  else if C.scr&&isT C q.pos 1 sUndef then zcr C sUndef (adv q)
  else bd (zk C false q) fun x=>if isT C x.1.pos 4 cPoint then bd (zk C true (adv x.1)) fun y=>memP C x.2 y.2 y.1 else zcr C x.2 x.1
def nd (C:Cx) (nt:NT) (q:PS):Nat:=
 5*(C.ts.length-q.pos)+match nt with
  | .sum=>3
  | .prod=>2
  |_=>1
def pE (C:Cx) (nt:NT) (d:Nat) (q:PS):PR:=ev C (nd C nt q) nt d q
theorem zfp {C:Cx} {i:Nat} (h:C.ts.length≤i):zd C i=⟨0,sNone,0,C.fin⟩:=by simp[zd,List.getD,List.getElem?_eq_none h]
theorem zcm {C:Cx} {i:Nat} {k:Int} {x:ByteArray} (h:isT C i k x=true) (hk:k≠0):i<C.ts.length:=by
 rcases Nat.lt_or_ge i C.ts.length with g|g
 ·exact g
 ·simp only[isT,zfp g,Bool.and_eq_true,beq_iff_eq] at h
  exact absurd h.1.symm hk
theorem zne {C:Cx} {i:Nat} {k:Int} (h:((zd C i).kind==k)=true) (hk:k≠0):i<C.ts.length:=by
 rcases Nat.lt_or_ge i C.ts.length with g|g
 ·exact g
 ·simp only[zfp g,beq_iff_eq] at h
  exact absurd h.symm hk
theorem zjs {C:Cx} {i:Nat} {o:Bool} (h:plainB C i o=true):i<C.ts.length:=by
 simp only[plainB,Bool.and_eq_true] at h
 exact zne h.1 (by decide)
theorem zdf {C:Cx} {k:Int} {x:ByteArray} {q q':PS} (h:tokP C k x q= .ok q'):q'=adv q∧isT C q.pos k x=true:=by
 unfold tokP at h
 split at h
 ·next g=>exact⟨by cases h;rfl,g⟩
 ·cases h
theorem zcj {C:Cx} {o:Bool} {q:PS} {y:PS×ByteArray} (h:zk C o q= .ok y):y=(adv q,(zd C q.pos).text)∧plainB C q.pos o=true:=by
 unfold zk at h
 split at h
 ·next g=>exact⟨by cases h;rfl,g⟩
 ·cases h
theorem zdg {C:Cx} {x:Ex} {q q':PS} (h:zbm C x q= .ok q'):q'={q with ex:=q.ex++[x]}∧q.ex.length<300:=by
 unfold zbm at h
 split at h
 ·cases h
 ·cases h
  exact⟨rfl,by omega⟩
theorem zr (q:PS):(adv q).pos=q.pos+1:=rfl
theorem zxw {C:Cx} {n:ByteArray} {q q':PS} (h:zcr C n q= .ok q'):q.pos≤q'.pos:=by
 unfold zcr at h
 split at h
 ·obtain⟨a,h1,h2⟩:=zc h
  obtain⟨b,h3,h4⟩:=zc h1
  obtain⟨rfl,_⟩:=zdf h3
  obtain⟨rfl,_⟩:=zdf h4
  obtain⟨rfl,_⟩:=zdg h2
  show q.pos≤q.pos+1+1
  omega
 ·obtain⟨rfl,_⟩:=zdg h
  exact Nat.le_refl _
theorem zboz {C:Cx} {n f:ByteArray} {q q':PS} (h:memP C n f q= .ok q'):q.pos≤q'.pos:=by
 unfold memP at h
 split at h
 ·obtain⟨a,h1,h2⟩:=zc h
  obtain⟨b,h3,h4⟩:=zc h1
  obtain⟨rfl,_⟩:=zdf h3
  obtain⟨rfl,_⟩:=zdf h4
  obtain⟨rfl,_⟩:=zdg h2
  show q.pos≤q.pos+1+1
  omega
 ·obtain⟨rfl,_⟩:=zdg h
  exact Nat.le_refl _
theorem zrm {C:Cx} (f:Nat): ∀(nt:NT) (d:Nat) (q q':PS),ev C f nt d q= .ok q'→q.pos≤q'.pos:=by
 induction f with
 |zero=>intro nt d q q' h;cases nt<;>cases h
 |succ f ih=>
  intro nt d q q' h
  cases nt with
  |sum=>
   rw[ev] at h
   obtain⟨a,h1,h2⟩:=zc h
   exact Nat.le_trans (ih _ _ _ _ h1) (ih _ _ _ _ h2)
  |prod=>
   rw[ev] at h
   obtain⟨a,h1,h2⟩:=zc h
   exact Nat.le_trans (ih _ _ _ _ h1) (ih _ _ _ _ h2)
  |sumT=>
   rw[ev] at h
   split at h
   ·obtain⟨a,h1,h2⟩:=zc h
    obtain⟨b,h3,h4⟩:=zc h1
    obtain⟨rfl,_⟩:=zdg h4
    have e1:=ih _ _ _ _ h3
    have e2:=ih _ _ _ _ h2
    rw[zr] at e1
    exact Nat.le_trans (by omega:q.pos≤b.pos) e2
   ·cases h
    exact Nat.le_refl _
  |prodT=>
   rw[ev] at h
   split at h
   ·obtain⟨a,h1,h2⟩:=zc h
    obtain⟨b,h3,h4⟩:=zc h1
    obtain⟨rfl,_⟩:=zdg h4
    have e1:=ih _ _ _ _ h3
    have e2:=ih _ _ _ _ h2
    rw[zr] at e1
    exact Nat.le_trans (by omega:q.pos≤b.pos) e2
   ·cases h
    exact Nat.le_refl _
  |part=>
   rw[ev] at h
   split at h
   ·obtain⟨rfl,_⟩:=zdg h
    show q.pos≤q.pos+1
    omega
   ·split at h
    ·split at h
     ·cases h
     ·obtain⟨a,h1,h2⟩:=zc h
      obtain⟨rfl,_⟩:=zdf h2
      have e1:=ih _ _ _ _ h1
      rw[zr] at e1 ⊢
      omega
    ·split at h
     ·have:=zxw h
      rw[zr] at this
      omega
     ·obtain⟨y,h1,h2⟩:=zc h
      obtain⟨rfl,_⟩:=zcj h1
      simp only at h2
      split at h2
      ·obtain⟨z,h3,h4⟩:=zc h2
       obtain⟨rfl,_⟩:=zcj h3
       have:=zboz h4
       simp only[zr] at this
       omega
      ·have:=zxw h2
       rw[zr] at this
       omega
/-- Enough is enough: with as many steps as the tokens ask for, more change nothing. -/
theorem zblb {C:Cx} (f:Nat): ∀(g:Nat) (nt:NT) (d:Nat) (q:PS),nd C nt q≤f→nd C nt q≤g→ev C f nt d q=ev C g nt d q:=by
 induction f with
 |zero=>intro g nt d q h;unfold nd at h;cases nt<;>simp at h
 |succ f ih=>
  intro g nt d q h1 h2
  obtain⟨g,rfl⟩: ∃g',g=g'+1:=by
   match g with
   |0=>unfold nd at h2;cases nt<;>simp at h2
   |g+1=>exact⟨g,rfl⟩
  cases nt with
  |sum=>
   simp only[nd] at h1 h2
   rw[ev,ev,ih g .prod d q (by simp only[nd];omega) (by simp only[nd];omega)]
   refine zbd fun a ha=>?_
   have:=zrm _ _ _ _ _ ha
   exact ih g .sumT d a (by simp only[nd];omega) (by simp only[nd];omega)
  |prod=>
   simp only[nd] at h1 h2
   rw[ev,ev,ih g .part d q (by simp only[nd];omega) (by simp only[nd];omega)]
   refine zbd fun a ha=>?_
   have:=zrm _ _ _ _ _ ha
   exact ih g .prodT d a (by simp only[nd];omega) (by simp only[nd];omega)
  |sumT=>
   simp only[nd] at h1 h2
   rw[ev,ev]
   split
   ·next hs=>
    have hlt:q.pos<C.ts.length:=by
     rw[Bool.or_eq_true] at hs
     exact hs.elim (fun k=>zcm k (by decide)) fun k=>zcm k (by decide)
    rw[ih g .prod d (adv q) (by simp only[nd,zr];omega) (by simp only[nd,zr];omega)]
    refine zbd fun a ha=>?_
    obtain⟨b,h3,h4⟩:=zc ha
    obtain⟨rfl,_⟩:=zdg h4
    have:=zrm _ _ _ _ _ h3
    rw[zr] at this
    exact ih g .sumT d _ (by simp only[nd];omega) (by simp only[nd];omega)
   ·rfl
  |prodT=>
   simp only[nd] at h1 h2
   rw[ev,ev]
   split
   ·next hs=>
    have hlt:q.pos<C.ts.length:=zcm hs (by decide)
    rw[ih g .part d (adv q) (by simp only[nd,zr];omega) (by simp only[nd,zr];omega)]
    refine zbd fun a ha=>?_
    obtain⟨b,h3,h4⟩:=zc ha
    obtain⟨rfl,_⟩:=zdg h4
    have:=zrm _ _ _ _ _ h3
    rw[zr] at this
    exact ih g .prodT d _ (by simp only[nd];omega) (by simp only[nd];omega)
   ·rfl
  |part=>
   simp only[nd] at h1 h2
   rw[ev,ev]
   split
   ·rfl
   ·split
    ·next hs=>
     have hlt:q.pos<C.ts.length:=zcm hs (by decide)
     split
     ·rfl
     ·rw[ih g .sum (d+1) (adv q) (by simp only[nd,zr];omega) (by simp only[nd,zr];omega)]
    ·rfl
theorem zma {C:Cx} {f d:Nat} {nt:NT} {q:PS} (h:nd C nt q≤f):ev C f nt d q=pE C nt d q:=zblb f _ nt d q h (Nat.le_refl _)
theorem zen {C:Cx} {nt:NT} {d:Nat} {q q':PS} (h:pE C nt d q= .ok q'):q.pos≤q'.pos:=zrm _ _ _ _ _ h
theorem zoz {C:Cx} {nt:NT} {d:Nat} {q:PS}:pE C nt d q=ev C (nd C nt q+1) nt d q:=(zma (Nat.le_succ _)).symm
theorem zbau (C:Cx) (d:Nat) (q:PS):pE C .sum d q=bd (pE C .prod d q) (pE C .sumT d):=by
 rw[zoz,ev,zma (by simp only[nd];omega)]
 refine zbd fun a ha=>?_
 have:=zen ha
 exact zma (by simp only[nd];omega)
theorem zpa (C:Cx) (d:Nat) (q:PS):pE C .prod d q=bd (pE C .part d q) (pE C .prodT d):=by
 rw[zoz,ev,zma (by simp only[nd];omega)]
 refine zbd fun a ha=>?_
 have:=zen ha
 exact zma (by simp only[nd];omega)
theorem zlj (C:Cx) (d:Nat) (q:PS):pE C .sumT d q=
  if isT C q.pos 4 zfo||isT C q.pos 4 zcy then
   bd (bd (pE C .prod d (adv q)) fun q'=>zbm C ⟨zeu C q.pos,0,sNone,sNone,(q.ex.length:Int)-1,(q'.ex.length:Int)-1⟩ q') (pE C .sumT d)
  else .ok q:=by
 rw[zoz,ev]
 split
 ·next hs=>
  have hlt:q.pos<C.ts.length:=by
   rw[Bool.or_eq_true] at hs
   exact hs.elim (fun k=>zcm k (by decide)) fun k=>zcm k (by decide)
  rw[zma (by simp only[nd,zr];omega)]
  refine zbd fun a ha=>?_
  obtain⟨b,h3,h4⟩:=zc ha
  obtain⟨rfl,_⟩:=zdg h4
  have:=zen h3
  rw[zr] at this
  exact zma (by simp only[nd];omega)
 ·rfl
theorem zlk (C:Cx) (d:Nat) (q:PS):pE C .prodT d q=
  if isT C q.pos 4 zw then
   bd (bd (pE C .part d (adv q)) fun q'=>zbm C ⟨8,0,sNone,sNone,(q.ex.length:Int)-1,(q'.ex.length:Int)-1⟩ q') (pE C .prodT d)
  else .ok q:=by
 rw[zoz,ev]
 split
 ·next hs=>
  have hlt:q.pos<C.ts.length:=zcm hs (by decide)
  rw[zma (by simp only[nd,zr];omega)]
  refine zbd fun a ha=>?_
  obtain⟨b,h3,h4⟩:=zc ha
  obtain⟨rfl,_⟩:=zdg h4
  have:=zen h3
  rw[zr] at this
  exact zma (by simp only[nd];omega)
 ·rfl
theorem zdw (C:Cx) (d:Nat) (q:PS):pE C .part d q=
  if (zd C q.pos).kind==2 then zbm C ⟨1,(zd C q.pos).num,sNone,sNone,0,0⟩ (adv q)
  else if isT C q.pos 4 cOpen then
   if 20≤d then .error (here C q.pos) else bd (pE C .sum (d+1) (adv q)) (tokP C 4 zbw)
  else if C.scr&&isT C q.pos 1 sUndef then zcr C sUndef (adv q)
  else bd (zk C false q) fun x=>if isT C x.1.pos 4 cPoint then bd (zk C true (adv x.1)) fun y=>memP C x.2 y.2 y.1 else zcr C x.2 x.1:=by
 rw[zoz,ev]
 split
 ·rfl
 ·split
  ·next hs=>
   have hlt:q.pos<C.ts.length:=zcm hs (by decide)
   split
   ·rfl
   ·rw[zma (by simp only[nd,zr];omega)]
  ·rfl
/-- A program: its five lists. -/
structure Md where
 rq:List ByteArray
 im:List Im
 ep:List Ep
 st:List Sm
 ex:List Ex
def mdOf (q:PS):Md:=⟨q.rq,q.im,q.ep++q.la,q.st,q.ex⟩
def sumK (k:Int):Bool:=k==6||k==7
def twoK (k:Int):Bool:=k==6||k==7||k==8
def exNo:Ex:=⟨0,0,sNone,sNone,0,0⟩
abbrev cParens:ByteArray:={data:=#[40,41]}
abbrev tPlus:ByteArray:={data:=#[32,43,32]}
abbrev tMinus:ByteArray:={data:=#[32,45,32]}
abbrev tStar:ByteArray:={data:=#[32,42,32]}
/-- A side of an expression, in ( ) where it has to be. -/
def zcl (b:Bool) (t:ByteArray):ByteArray:=if b then cOpen++t++zbw else t
/-- An expression's text, with so many steps at hand. -/
def prE (ex:List Ex):Nat→Nat→ByteArray
 |0,_=>sNone
 |f+1,i=>
  let x:=ex.getD i exNo
  if x.kind==1 then strOfNums (decL x.num)
  else if x.kind==2 then x.name
  else if x.kind==3 then x.name++cParens
  else if x.kind==4 then x.name++cPoint++x.field
  else if x.kind==5 then x.name++cPoint++x.field++cParens
  else if x.kind==6 then prE ex f x.l.toNat++tPlus++zcl (sumK (ex.getD x.r.toNat exNo).kind) (prE ex f x.r.toNat)
  else if x.kind==7 then prE ex f x.l.toNat++tMinus++zcl (sumK (ex.getD x.r.toNat exNo).kind) (prE ex f x.r.toNat)
  else if x.kind==8 then zcl (sumK (ex.getD x.l.toNat exNo).kind) (prE ex f x.l.toNat)++tStar++zcl (twoK (ex.getD x.r.toNat exNo).kind) (prE ex f x.r.toNat)
  else sNone
def prX (ex:List Ex) (i:Nat):ByteArray:=prE ex (i+1) i
/-- Each side is the number of an expression ahead. -/
def zmb (ex:List Ex):Prop:=∀(i:Nat) (x:Ex),ex[i]? =some x→twoK x.kind=true→0≤x.l∧x.l<(i:Int)∧0≤x.r∧x.r<(i:Int)
theorem zgt {k:Int} (h:(k==6)=true∨(k==7)=true∨(k==8)=true):twoK k=true:=by
 unfold twoK
 rcases h with h|h|h<;>simp[h]
theorem zuc {ex:List Ex} (h:zmb ex) {i:Nat} (hk:twoK (ex.getD i exNo).kind=true):0≤(ex.getD i exNo).l∧(ex.getD i exNo).l<(i:Int)∧0≤(ex.getD i exNo).r∧(ex.getD i exNo).r<(i:Int):=by
 by_cases hi:i<ex.length
 ·have e:ex.getD i exNo=ex[i]:=by simp[List.getD,List.getElem?_eq_getElem hi]
  rw[e] at hk ⊢
  exact h i _ (List.getElem?_eq_getElem hi) hk
 ·have e:ex.getD i exNo=exNo:=by simp[List.getD,List.getElem?_eq_none (by omega:ex.length≤i)]
  rw[e] at hk
  exact absurd hk (by decide)
theorem zvl {ex:List Ex} (h:zmb ex) (f:Nat): ∀(g i:Nat),i<f→i<g→prE ex f i=prE ex g i:=by
 induction f with
 |zero=>intro g i hi;omega
 |succ f ih=>
  intro g i h1 h2
  obtain⟨g,rfl⟩: ∃g',g=g'+1:=⟨g-1,by omega⟩
  rw[prE,prE]
  have ha:=fun hk=>zuc h (i:=i) hk
  generalize ex.getD i exNo=x at ha ⊢
  have hs: ∀hk:twoK x.kind=true,prE ex f x.l.toNat=prE ex g x.l.toNat∧prE ex f x.r.toNat=prE ex g x.r.toNat:=fun hk=>by
   have:=ha hk
   exact⟨ih g _ (by omega) (by omega),ih g _ (by omega) (by omega)⟩
  by_cases k6:(x.kind==6)=true
  ·rw[(hs (zgt (.inl k6))).1,(hs (zgt (.inl k6))).2]
  ·by_cases k7:(x.kind==7)=true
   ·rw[(hs (zgt (.inr (.inl k7)))).1,(hs (zgt (.inr (.inl k7)))).2]
   ·by_cases k8:(x.kind==8)=true
    ·rw[(hs (zgt (.inr (.inr k8)))).1,(hs (zgt (.inr (.inr k8)))).2]
    ·simp only[k6,k7,k8,Bool.false_eq_true,↓reduceIte]
theorem zbav {ex:List Ex} (h:zmb ex) (i:Nat):prX ex i=
  if (ex.getD i exNo).kind==1 then strOfNums (decL (ex.getD i exNo).num)
  else if (ex.getD i exNo).kind==2 then (ex.getD i exNo).name
  else if (ex.getD i exNo).kind==3 then (ex.getD i exNo).name++cParens
  else if (ex.getD i exNo).kind==4 then (ex.getD i exNo).name++cPoint++(ex.getD i exNo).field
  else if (ex.getD i exNo).kind==5 then (ex.getD i exNo).name++cPoint++(ex.getD i exNo).field++cParens
  else if (ex.getD i exNo).kind==6 then prX ex (ex.getD i exNo).l.toNat++tPlus++zcl (sumK (ex.getD (ex.getD i exNo).r.toNat exNo).kind) (prX ex (ex.getD i exNo).r.toNat)
  else if (ex.getD i exNo).kind==7 then prX ex (ex.getD i exNo).l.toNat++tMinus++zcl (sumK (ex.getD (ex.getD i exNo).r.toNat exNo).kind) (prX ex (ex.getD i exNo).r.toNat)
  else if (ex.getD i exNo).kind==8 then zcl (sumK (ex.getD (ex.getD i exNo).l.toNat exNo).kind) (prX ex (ex.getD i exNo).l.toNat)++tStar++zcl (twoK (ex.getD (ex.getD i exNo).r.toNat exNo).kind) (prX ex (ex.getD i exNo).r.toNat)
  else sNone:=by
 rw[prX,prE]
 have ha:=fun hk=>zuc h (i:=i) hk
 generalize ex.getD i exNo=x at ha ⊢
 have hs: ∀hk:twoK x.kind=true,prE ex i x.l.toNat=prX ex x.l.toNat∧prE ex i x.r.toNat=prX ex x.r.toNat:=fun hk=>by
  have:=ha hk
  exact⟨zvl h _ _ _ (by omega) (by omega),zvl h _ _ _ (by omega) (by omega)⟩
 by_cases k6:(x.kind==6)=true
 ·rw[(hs (zgt (.inl k6))).1,(hs (zgt (.inl k6))).2]
 ·by_cases k7:(x.kind==7)=true
  ·rw[(hs (zgt (.inr (.inl k7)))).1,(hs (zgt (.inr (.inl k7)))).2]
  ·by_cases k8:(x.kind==8)=true
   ·rw[(hs (zgt (.inr (.inr k8)))).1,(hs (zgt (.inr (.inr k8)))).2]
   ·simp only[k6,k7,k8,Bool.false_eq_true,↓reduceIte]
/-- How often an expression is a side, or that of a statement. -/
def zca (ex:List Ex) (k:Int):Nat:=(ex.map fun x=>if twoK x.kind then (if x.l==k then 1 else 0)+(if x.r==k then 1 else 0) else 0).sum
def zdn (st:List Sm) (k:Int):Nat:=(st.map fun s=>if s.expr==k then 1 else 0).sum
/-- Each side ahead, each statement's expression there, each expression used once. -/
structure Tree (m:Md):Prop where
 ahead:zmb m.ex
 stm: ∀s∈m.st,0≤s.expr∧s.expr<(m.ex.length:Int)
 once: ∀k,k<m.ex.length→zca m.ex (k:Int)+zdn m.st (k:Int)=1
def sm (k:Nat) (f:Nat→Nat):Nat:=((List.range k).map f).sum
theorem zbsd (f:Nat→Nat):sm 0 f=0:=rfl
theorem zki (k:Nat) (f:Nat→Nat):sm (k+1) f=sm k f+f k:=by
 unfold sm
 rw[List.range_succ,List.map_append,List.sum_append]
 simp
theorem zbaw (k:Nat) (f g:Nat→Nat):sm k (fun j=>f j+g j)=sm k f+sm k g:=by
 induction k with
 |zero=>rfl
 |succ k ih=>rw[zki,zki,zki,ih];omega
theorem zjt {k:Nat} {f g:Nat→Nat} (h: ∀j,j<k→f j=g j):sm k f=sm k g:=by
 induction k with
 |zero=>rfl
 |succ k ih=>rw[zki,zki,ih fun j hj=>h j (by omega),h k (by omega)]
theorem zwy (k:Nat):sm k (fun _=>0)=0:=by
 induction k with
 |zero=>rfl
 |succ k ih=>rw[zki,ih]
theorem zbax (f:Nat→Nat) (k:Nat) (l:Int) (h0:0≤l) (h:l<(k:Int)):sm k (fun j=>(if l==(j:Int) then 1 else 0)*f j)=f l.toNat:=by
 induction k with
 |zero=>omega
 |succ k ih=>
  rw[zki]
  by_cases e:l=(k:Int)
  ·have e1:sm k (fun j=>(if l==(j:Int) then 1 else 0)*f j)=0:=(zjt (g:=fun _=>0) fun j hj=>by rw[if_neg (by rw[beq_iff_eq];omega)];omega).trans (zwy k)
   rw[e1,if_pos (by rw[beq_iff_eq];exact e),show l.toNat=k from by omega]
   omega
  ·rw[ih (by omega),if_neg (by rw[beq_iff_eq];exact e)]
   omega
def u1 (x:Ex) (k:Int):Nat:=if twoK x.kind then (if x.l==k then 1 else 0)+(if x.r==k then 1 else 0) else 0
theorem zvm {ex:List Ex} {i:Nat} (hi:i<ex.length) (k:Int):zca (ex.drop i) k=u1 ex[i] k+zca (ex.drop (i+1)) k:=by
 rw[List.drop_eq_getElem_cons hi,zca,List.map_cons,List.sum_cons]
 rfl
theorem zblc {ex:List Ex} {i:Nat} (hi:ex.length≤i) (k:Int):zca (ex.drop i) k=0:=by rw[List.drop_eq_nil_of_le hi];rfl
/-- No expression up to k uses k. -/
theorem zbia {ex:List Ex} (h:zmb ex) (k:Nat) (hk:k<ex.length): ∀d j,j+d=k+1→zca (ex.drop j) (k:Int)=zca (ex.drop (k+1)) (k:Int):=by
 intro d
 induction d with
 |zero=>intro j hj;rw[show j=k+1 from by omega]
 |succ d ih=>
  intro j hj
  rw[zvm (by omega),ih (j+1) (by omega)]
  have:u1 ex[j] (k:Int)=0:=by
   unfold u1
   split
   ·next ht=>
    have:=h j _ (List.getElem?_eq_getElem (by omega)) ht
    rw[if_neg (by rw[beq_iff_eq];omega),if_neg (by rw[beq_iff_eq];omega)]
   ·rfl
  omega
def wt (ex:List Ex) (i:Nat):Nat:=(prX ex i).size
def cost (x:Ex):Nat:=x.name.size+x.field.size+40
theorem zof (b:Bool) (t:ByteArray):(zcl b t).size≤t.size+2:=by
 unfold zcl
 split
 ·rw[ByteArray.size_append,ByteArray.size_append]
  show 1+t.size+1≤t.size+2
  omega
 ·omega
theorem zpt (n:Int) (h0: -9223372036854775808≤n) (h1:n≤9223372036854775807):(strOfNums (decL n)).size≤21:=by
 rw[strOfNums_size]
 by_cases h:n<0
 ·rw[zua h,List.length_cons,zdr]
  have:=(zfu (-n) (by omega) (by omega)).2.1
  omega
 ·rw[zps (by omega),zdr]
  have:=(zfu n (by omega) (by omega)).2.1
  omega
/-- What an expression's text costs beside its sides. -/
theorem zbse {ex:List Ex} (h:zmb ex) (i:Nat) (hn: -9223372036854775808≤(ex.getD i exNo).num∧(ex.getD i exNo).num≤9223372036854775807):
  wt ex i≤cost (ex.getD i exNo)+if twoK (ex.getD i exNo).kind then wt ex (ex.getD i exNo).l.toNat+wt ex (ex.getD i exNo).r.toNat else 0:=by
 unfold wt
 rw[zbav h]
 generalize ex.getD i exNo=x at hn ⊢
 unfold cost
 by_cases k1:(x.kind==1)=true
 ·rw[if_pos k1]
  have:=zpt x.num hn.1 hn.2
  omega
 ·rw[if_neg k1]
  by_cases k2:(x.kind==2)=true
  ·rw[if_pos k2];omega
  ·rw[if_neg k2]
   by_cases k3:(x.kind==3)=true
   ·rw[if_pos k3,ByteArray.size_append]
    have:cParens.size=2:=rfl
    omega
   ·rw[if_neg k3]
    by_cases k4:(x.kind==4)=true
    ·rw[if_pos k4,ByteArray.size_append,ByteArray.size_append]
     have:cPoint.size=1:=rfl
     omega
    ·rw[if_neg k4]
     by_cases k5:(x.kind==5)=true
     ·rw[if_pos k5,ByteArray.size_append,ByteArray.size_append,ByteArray.size_append]
      have:cPoint.size=1:=rfl
      have:cParens.size=2:=rfl
      omega
     ·rw[if_neg k5]
      by_cases k6:(x.kind==6)=true
      ·rw[if_pos k6,if_pos (zgt (.inl k6)),ByteArray.size_append,ByteArray.size_append]
       have:=zof (sumK (ex.getD x.r.toNat exNo).kind) (prX ex x.r.toNat)
       have:tPlus.size=3:=rfl
       omega
      ·rw[if_neg k6]
       by_cases k7:(x.kind==7)=true
       ·rw[if_pos k7,if_pos (zgt (.inr (.inl k7))),ByteArray.size_append,ByteArray.size_append]
        have:=zof (sumK (ex.getD x.r.toNat exNo).kind) (prX ex x.r.toNat)
        have:tMinus.size=3:=rfl
        omega
       ·rw[if_neg k7]
        by_cases k8:(x.kind==8)=true
        ·rw[if_pos k8,if_pos (zgt (.inr (.inr k8))),ByteArray.size_append,ByteArray.size_append]
         have:=zof (sumK (ex.getD x.l.toNat exNo).kind) (prX ex x.l.toNat)
         have:=zof (twoK (ex.getD x.r.toNat exNo).kind) (prX ex x.r.toNat)
         have:tStar.size=3:=rfl
         omega
        ·rw[if_neg k8]
         show 0≤_
         omega
def Nums (ex:List Ex):Prop:=∀x∈ex,-9223372036854775808≤x.num∧x.num≤9223372036854775807
theorem zpb {ex:List Ex} {i:Nat} (hi:i<ex.length):ex.getD i exNo=ex[i]:=by simp[List.getD,List.getElem?_eq_getElem hi]
/-- All statements' expressions together. -/
theorem zbsf (f:Nat→Nat) (n:Nat): ∀st:List Sm,(∀s∈st,0≤s.expr∧s.expr<(n:Int))→(st.map fun s=>f s.expr.toNat).sum=sm n (fun j=>zdn st (j:Int)*f j):=by
 intro st
 induction st with
 |nil=>intro _;show 0=_;rw[←zwy n];exact zjt fun j _=>by simp[zdn]
 |cons s st ih=>
  intro h
  rw[List.map_cons,List.sum_cons,ih fun x hx=>h x (List.mem_cons_of_mem _ hx)]
  have h1:=h s List.mem_cons_self
  rw[←zbax f n s.expr h1.1 h1.2,←zbaw]
  refine zjt fun j _=>?_
  simp only[zdn,List.map_cons,List.sum_cons]
  rw[Nat.add_mul]
theorem zbld {m:Md} (t:Tree m) (hn:Nums m.ex): ∀d k,k+d=m.ex.length→
  (m.st.map fun s=>wt m.ex s.expr.toNat).sum≤sm k (fun j=>(zdn m.st (j:Int)+zca (m.ex.drop k) (j:Int))*wt m.ex j)+((m.ex.drop k).map cost).sum:=by
 intro d
 induction d with
 |zero=>
  intro k hk
  have:k=m.ex.length:=by omega
  subst this
  rw[zbsf _ _ _ t.stm]
  refine Nat.le_trans (Nat.le_of_eq ?_) (Nat.le_add_right _ _)
  refine zjt fun j _=>?_
  rw[zblc (Nat.le_refl _),Nat.add_zero]
 |succ d ih=>
  intro k hk
  have hlt:k<m.ex.length:=by omega
  refine Nat.le_trans (ih (k+1) (by omega)) ?_
  have h1:zdn m.st (k:Int)+zca (m.ex.drop (k+1)) (k:Int)=1:=by
   have:=t.once k hlt
   rw[←zbia t.ahead k hlt (k+1) 0 (by omega),List.drop_zero]
   omega
  rw[zki,h1,Nat.one_mul,List.drop_eq_getElem_cons hlt,List.map_cons,List.sum_cons]
  have h2:=zbse t.ahead k (by rw[zpb hlt];exact hn _ (List.getElem_mem hlt))
  rw[zpb hlt] at h2
  have h3:sm k (fun j=>(zdn m.st (j:Int)+zca (m.ex.drop k) (j:Int))*wt m.ex j)=sm k (fun j=>(zdn m.st (j:Int)+zca (m.ex.drop (k+1)) (j:Int))*wt m.ex j)+if twoK m.ex[k].kind then wt m.ex m.ex[k].l.toNat+wt m.ex m.ex[k].r.toNat else 0:=by
   have e: ∀j:Nat,(zdn m.st (j:Int)+zca (m.ex.drop k) (j:Int))*wt m.ex j=(zdn m.st (j:Int)+zca (m.ex.drop (k+1)) (j:Int))*wt m.ex j+u1 m.ex[k] (j:Int)*wt m.ex j:=fun j=>by
    rw[zvm hlt,←Nat.add_mul]
    congr 1
    omega
   rw[zjt fun j _=>e j,zbaw]
   congr 1
   split
   ·next ht=>
    have ha:=t.ahead k _ (List.getElem?_eq_getElem hlt) ht
    rw[←zbax (wt m.ex) k _ ha.1 ha.2.1,←zbax (wt m.ex) k _ ha.2.2.1 ha.2.2.2,←zbaw]
    refine zjt fun j _=>?_
    rw[u1,if_pos ht,Nat.add_mul]
   ·next ht=>
    rw[←zwy k]
    refine zjt fun j _=>?_
    rw[u1,if_neg ht,Nat.zero_mul]
  have h4:zca (m.ex[k]::m.ex.drop (k+1))=zca (m.ex.drop k):=by rw[←List.drop_eq_getElem_cons hlt]
  rw[h4,h3]
  omega
theorem zbib {m:Md} (t:Tree m) (hn:Nums m.ex):(m.st.map fun s=>wt m.ex s.expr.toNat).sum≤(m.ex.map cost).sum:=by
 have:=zbld t hn m.ex.length 0 (by omega)
 rw[zbsd,Nat.zero_add,List.drop_zero] at this
 exact this
def tkL (t:Tk):List Value:=[.int .i64 t.kind,.string t.text,.int .i64 t.num,.int .i64 t.pos]
/-- A row of tokens of the call's own. -/
def OwnT (w:World) (base:Nat) (e:TypeId) (g n cap:Nat) (ts:List Tk):Prop:=w.ownsRow base e 4 (.slice (some ⟨g,0,none⟩) n cap) n (ts.flatMap tkL)∧n=ts.length
theorem zbr {w:World} {base g n cap:Nat} {e:TypeId} {ts:List Tk} (h:OwnT w base e g n cap ts):g<w.heap.size∧base≤g∧n≤cap:=by
 rcases h.1.2 with ⟨h',_⟩|⟨g',cap',cur,h',hb,hg,hn,_⟩
 ·simp at h'
 ·simp only[Value.slice.injEq,Option.some.injEq,Addr.mk.injEq,and_true,true_and] at h'
  obtain⟨rfl,rfl⟩:=h'
  exact⟨(Array.getElem?_eq_some_iff.1 hg).1,hb,hn⟩
theorem zds {w W:World} {base g n cap:Nat} {e:TypeId} {ts:List Tk} (h:OwnT w base e g n cap ts) (hb:Below w.heap.size w W):OwnT W base e g n cap ts:=by
 have hlt:=(zbr h).1
 refine⟨⟨h.1.1,?_⟩,h.2⟩
 rcases h.1.2 with k|⟨g',cap',cur,hv,hbase,hg,hr⟩
 ·exact .inl k
 ·simp only[Value.slice.injEq,Option.some.injEq,Addr.mk.injEq,and_true,true_and] at hv
  obtain⟨rfl,rfl⟩:=hv
  exact .inr ⟨g,cap,cur,rfl,hbase,(hb.block g hlt).trans hg,hr⟩
theorem zud (w:World) (e:TypeId) (base:Nat) (hb:base≤w.heap.size):OwnT (w.alloc (.cells #[] e)) base e w.heap.size 0 0 []:=
 ⟨World.ownsRow_lit w #[] 0 hb (by unfold maxLen;omega) rfl,rfl⟩
theorem zbgd {P:Program} (w:World) {ops:Array Oper} {rest:List Oper} {o:Oper} {a:Act} {Q:Exit→Act→World→Prop} (hgd:o.guard=none) (s x:Operand) (t:TypeId)
  (ho:o.op= .call {callee:=.builtin .append,args:=#[s,x],argTypes:=#[t,t]})
  (base:Nat) (e:TypeId) (i:TypeInfo) (z:Value) (ht:P.underlying t=some (.slice e)) (hi:P.info? e=some i) (hz:i.zero=some z) (hsize:i.size=4) (hby:i.bytes=40) (hzs:z.cells.size=4)
  (g n cap:Nat) (ts:List Tk) (hs:a.eval s= .slice (some ⟨g,0,none⟩) n cap) (hown:OwnT w base e g n cap ts)
  (b:Tk) (gx:Nat) (hgx:gx=w.heap.size) (hx:a.eval x= .slice (some ⟨gx,0,none⟩) 1 1) (hn:n+1≤1000000) (hbase:base≤w.heap.size)
  (h: ∀g' cap' w',OwnT w' base e g' (n+1) cap' (ts++[b])→Below base w w'→wpList P ops Q rest (a.put o.dst (.slice (some ⟨g',0,none⟩) (n+1) cap')) w'):
  wpList P ops Q (o::rest) a (w.alloc (.cells #[.int .i64 b.kind,.string b.text,.int .i64 b.num,.int .i64 b.pos] e)):=by
 subst hgx
 refine wpList_append_own _ hgd s x t ho base e i z 4 40 ht hi hz hsize hby hzs (by decide) _ n _ hs (hown.1.alloc _) ⟨w.heap.size,0,none⟩ 1 1 (tkL b) hx rfl ?_ ?_ ?_ ?_ ?_ ?_
 ·intro j u hj
  match j,hj with
  |0,hj=>simp[tkL] at hj;subst hj;simp[Addr.add]
  |1,hj=>simp[tkL] at hj;subst hj;simp[Addr.add]
  |2,hj=>simp[tkL] at hj;subst hj;simp[Addr.add]
  |3,hj=>simp[tkL] at hj;subst hj;simp[Addr.add]
  |j+4,hj=>simp[tkL] at hj
 ·intro u hu
  simp[tkL] at hu
  rcases hu with rfl|rfl|rfl|rfl<;>rfl
 ·unfold maxLen;omega
 ·omega
 ·simp;omega
 ·intro v' w' h1 h2 h3
  have hb:Below base w w':=((Below.refl base w).alloc hbase _).grown h2 (by simp;omega) (zkn hown.1)
  rcases h1.2 with ⟨hv,_⟩|⟨g',cap',cur,rfl,hrest⟩
  ·have:=(h3.1 hv).1
   simp at this
  ·refine h g' cap' w' ⟨?_,by rw[List.length_append];have:=hown.2;simp;omega⟩ hb
   rw[List.flatMap_append]
   simpa using h1
end Go.Proofs.YtlnohpdiiileeaaGreat
