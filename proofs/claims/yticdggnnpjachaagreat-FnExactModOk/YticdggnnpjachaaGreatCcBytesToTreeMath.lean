/-
  Plain facts on texts as lists of numbers. No program is spoken of.
  Tokens of a text,as plain relations: where a run of bytes ends,which token stands at a place,what is passed over,and that each of these is one alone. No program is spoken of.
  Programs,as plain functions: what a row of tokens means. No program is spoken of.
  Plain facts on decimal digits. No program is spoken of.
  Texts of programs,as plain functions. No program is spoken of.
  An expression that is used once: the texts of all statements' expressions are together no longer than what all expressions zde. No program is spoken of.
-/
import Derived.Lib.Strings
import Derived.Test.YticdggnnpjachaaGreatCcStr
namespace Go.Proofs.YticdggnnpjachaaGreat
open Go.RowKit Go.PlainAid
def bsl (s:ByteArray):Nat→Nat→List Int
 |_,0=>[]
 |i,m+1=>bt s i::bsl s (i+1) m
theorem zj2 (s:ByteArray) (i m:Nat):(bsl s i m).length=m:=by
 induction m generalizing i with
 |zero=>rfl
 |succ m h=>simp[bsl,h]
theorem zj3 (s:ByteArray) (i:Nat) (h:i<s.data.toList.length):UInt8.ofNat (bt s i).toNat=s.data.toList[i]:=by
 have j:i<s.size:=by simpa using h
 rw[←get_bt s i j,Int.toNat_natCast,UInt8.ofNat_toNat]
 rfl
theorem zj4 (s:ByteArray) (i m:Nat) (h:i+m≤s.size):(bsl s i m).map (fun n=>UInt8.ofNat n.toNat)=(s.data.toList.drop i).take m:=by
 induction m generalizing i with
 |zero=>simp[bsl]
 |succ m o=>
  have j:i<s.data.toList.length:=by rw[Array.length_toList];exact Nat.lt_of_lt_of_le (show i<i+(m+1) by omega) h
  rw[bsl,List.map_cons,o (i+1) (by omega),List.drop_eq_getElem_cons j,List.take_succ_cons,zj3 s i j]
theorem zgB (s:ByteArray) (k:Nat) (h:k≤s.size):s.extract 0 k=strOfNums (bsl s 0 k):=by
 have e:(s.extract 0 k).data.toList=(strOfNums (bsl s 0 k)).data.toList:=by
  rw[Lib.extract_data,strOfNums_data,zj4 s 0 k (by omega),Nat.sub_zero]
 have n:(s.extract 0 k).data=(strOfNums (bsl s 0 k)).data:=by
  rw[←Array.toArray_toList (xs:=(s.extract 0 k).data),e,Array.toArray_toList]
 have j: ∀a b:ByteArray,a.data=b.data→a=b:=by rintro⟨a⟩ ⟨b⟩ h;cases h;rfl
 exact j _ _ n
theorem zgC {a b:ByteArray} (h:a.data.toList=b.data.toList):a=b:=by
 obtain⟨⟨a⟩⟩:=a
 obtain⟨⟨b⟩⟩:=b
 simp only at h
 rw[h]
theorem zj5 (a b:ByteArray):(a.toList==b.toList)=true↔a=b:=by
 rw[beq_iff_eq,Lib.toList_data,Lib.toList_data]
 exact⟨zgC,fun h=>by rw[h]⟩
theorem zj6 (s:ByteArray):s=strOfNums (bsl s 0 s.size):=by
 rw[←zgB s s.size (Nat.le_refl _)]
 refine zgC ?_
 rw[Lib.extract_data,List.drop_zero,Nat.sub_zero,List.take_of_length_le]
 rw[Array.length_toList]
 exact Nat.le_refl _
theorem zcS (s:ByteArray) (k:Nat):bt s k=(s.data.toList.map (fun b=>(b.toNat:Int))).getD k 0:=by
 unfold bt
 by_cases h:k<s.size
 ·rw[dif_pos h]
  have j:k<s.data.toList.length:=by rw[Array.length_toList];exact h
  simp only[List.getD,List.getElem?_map,List.getElem?_eq_getElem j,Option.map_some,Option.getD_some]
  rfl
 ·rw[dif_neg h]
  have j:s.data.toList.length≤k:=by rw[Array.length_toList];exact Nat.le_of_not_lt h
  simp[List.getD,List.getElem?_eq_none j]
def zat (c:Int) (scr:Bool):Bool:=decide (97≤c∧c≤122)||decide (65≤c∧c≤90)||decide (c=95)||(scr&&decide (c=36))
def zD (c:Int):Bool:=decide (48≤c∧c≤57)
def zE (scr:Bool) (c:Int):Bool:=zat c scr||zD c
def zbb (c:Int):Bool:=decide (c≠10)
abbrev zcc (c:Int):Prop:=c=9∨c=10∨c=13∨c=32
abbrev zaS (c:Int):Prop:=c=123∨c=125∨c=40∨c=41∨c=44∨c=59∨c=61∨c=46∨c=42∨c=43∨c=45
abbrev zbn (c:Int):Prop:=32≤c∧c≤126∧c≠34∧c≠92
theorem zda {c:Int} {h:Bool}:zat c h=true↔(97≤c∧c≤122)∨(65≤c∧c≤90)∨c=95∨(h=true∧c=36):=by simp[zat,or_assoc]
theorem zck {c:Int}:zD c=true↔48≤c∧c≤57:=by simp[zD]
def zau (p:Int→Bool) (s:ByteArray) (a e:Nat):Prop:=a≤e∧e≤s.size∧(∀j,a≤j→j<e→p (bt s j)=true)∧(e<s.size→p (bt s e)=false)
theorem zec {p:Int→Bool} {s:ByteArray} {a j n:Nat} (D:zau p s a j) (A:zau p s a n):j=n:=by
 obtain⟨q,I,E,H⟩:=D
 obtain⟨o,J,z,w⟩:=A
 rcases Nat.lt_trichotomy j n with h|h|h
 ·have:=z j q h
  rw[H (by omega)] at this
  cases this
 ·exact h
 ·have:=E n o h
  rw[w (by omega)] at this
  cases this
def zbo (s:ByteArray) (a:Nat):Nat→Int
 |0=>0
 |k+1=>zbo s a k*10+(bt s (a+k)-48)
def zaJ (s:ByteArray) (a:Nat) (scr:Bool) (n:Int) (e:Nat):Prop:=
 zau zD s a e∧a<e∧(e=a+1∨bt s a≠48)∧n=zbo s a (e-a)∧n≤1000000∧(e<s.size→zat (bt s e) scr=false)
theorem zj7 {s:ByteArray} {a:Nat} {h:Bool} {z j:Int} {n o:Nat} (q:zaJ s a h z n) (w:zaJ s a h j o):z=j∧n=o:=by
 have A:=zec q.1 w.1
 subst A
 exact⟨q.2.2.2.1.trans w.2.2.2.1.symm,rfl⟩
theorem zgD {s:ByteArray} {a:Nat} (k m:Nat) (n: ∀j,j<m→48≤bt s (a+j)) (E:k≤m):0≤zbo s a k∧zbo s a k≤zbo s a m:=by
 have w: ∀m,(∀j,j<m→48≤bt s (a+j))→0≤zbo s a m:=by
  intro m
  induction m with
  |zero=>intro _;exact Int.le_refl _
  |succ m o=>
   intro h
   have q:=o (fun j z=>h j (by omega))
   have A:=h m (by omega)
   show 0≤zbo s a m*10+(bt s (a+m)-48)
   omega
 induction m with
 |zero=>
  obtain rfl:k=0:=by omega
  exact⟨Int.le_refl _,Int.le_refl _⟩
 |succ m o=>
  by_cases e:k=m+1
  ·subst e
   exact⟨w _ n,Int.le_refl _⟩
  ·obtain⟨q,A⟩:=o (fun j z=>n j (by omega)) (by omega)
   have D:=n m (by omega)
   refine⟨q,?_⟩
   show _≤zbo s a m*10+(bt s (a+m)-48)
   omega
def zbc (s:ByteArray) (a e:Nat):Prop:=a+2≤e∧e≤s.size∧e≤a+42∧bt s (e-1)=34∧∀j,a<j→j+1<e→zbn (bt s j)
theorem zj8 {s:ByteArray} {a j n:Nat} (A:zbc s a j) (w:zbc s a n):j=n:=by
 obtain⟨H,I,L,D,q⟩:=A
 obtain⟨E,K,J,o,z⟩:=w
 rcases Nat.lt_trichotomy j n with h|h|h
 ·exact absurd D (z (j-1) (by omega) (by omega)).2.2.1
 ·exact h
 ·exact absurd o (q (n-1) (by omega) (by omega)).2.2.1
structure Tk where
 kind:Int
 text:ByteArray
 num:Int
 pos:Nat
def Tok (s:ByteArray) (scr:Bool) (a:Nat) (t:Tk) (e:Nat):Prop:=
 (zat (bt s a) scr=true∧zau (zE scr) s a e∧t=⟨1,s.extract a e,0,a⟩)∨(∃n,zD (bt s a)=true∧zaJ s a scr n e∧t=⟨2,{data:=#[]},n,a⟩)∨(bt s a=34∧zbc s a e∧t=⟨3,s.extract (a+1) (e-1),0,a⟩)∨(zaS (bt s a)∧t=⟨4,s.extract a (a+1),0,a⟩∧e=a+1)
theorem Tok.name {s:ByteArray} {j:Bool} {a e:Nat} (h:zat (bt s a) j=true) (n:zau (zE j) s a e):Tok s j a ⟨1,s.extract a e,0,a⟩ e:=.inl ⟨h,n,rfl⟩
theorem Tok.num {s:ByteArray} {j:Bool} {a e:Nat} {n:Int} (h:zD (bt s a)=true) (o:zaJ s a j n e):Tok s j a ⟨2,{data:=#[]},n,a⟩ e:=.inr (.inl ⟨n,h,o,rfl⟩)
theorem Tok.str {s:ByteArray} {j:Bool} {a e:Nat} (h:bt s a=34) (n:zbc s a e):Tok s j a ⟨3,s.extract (a+1) (e-1),0,a⟩ e:=.inr (.inr (.inl ⟨h,n,rfl⟩))
theorem Tok.sign {s:ByteArray} {j:Bool} {a:Nat} (h:zaS (bt s a)):Tok s j a ⟨4,s.extract a (a+1),0,a⟩ (a+1):=.inr (.inr (.inr ⟨h,rfl,rfl⟩))
theorem Tok.elim {s:ByteArray} {scr:Bool} {a:Nat} {motive:(t:Tk)→(e:Nat)→Tok s scr a t e→Prop} {t:Tk} {e:Nat} (h:Tok s scr a t e) (name: ∀{e:Nat} (h:zat (bt s a) scr=true) (he:zau (zE scr) s a e),motive _ e (.name h he)) (num: ∀{n:Int} {e:Nat} (h:zD (bt s a)=true) (he:zaJ s a scr n e),motive _ e (.num h he)) (str: ∀{e:Nat} (h:bt s a=34) (he:zbc s a e),motive _ e (.str h he)) (sign: ∀(h:zaS (bt s a)),motive _ _ (.sign h)):motive t e h:=by
 rcases h with ⟨h1,h2,rfl⟩|⟨n,h1,h2,rfl⟩|⟨h1,h2,rfl⟩|⟨h1,rfl,rfl⟩
 ·exact name h1 h2
 ·exact num h1 h2
 ·exact str h1 h2
 ·exact sign h1
theorem zd3 {c:Int} {j:Bool} (h:zat c j=true):zD c=false∧c≠34∧¬zaS c:=by
 rw[zda] at h
 refine⟨decide_eq_false (by omega),by omega,by unfold zaS;omega⟩
theorem zd4 {c:Int} (h:zD c=true):c≠34∧¬zaS c:=by
 rw[zck] at h
 exact⟨by omega,by unfold zaS;omega⟩
theorem zj9 {s:ByteArray} {w:Bool} {a:Nat} {D E:Tk} {A H:Nat} (I:Tok s w a D A) (z:Tok s w a E H):D=E∧A=H:=by
 cases I using Tok.elim with
 |name h q=>
  have o:=zd3 h
  cases z using Tok.elim with
  |name j n=>have:=zec q n;subst this;exact⟨rfl,rfl⟩
  |num j n=>rw[o.1] at j;cases j
  |str j n=>exact absurd j o.2.1
  |sign j=>exact absurd j o.2.2
 |num h q=>
  have o:=zd4 h
  cases z using Tok.elim with
  |name j n=>rw[(zd3 j).1] at h;cases h
  |num j n=>obtain⟨rfl,rfl⟩:=zj7 q n;exact⟨rfl,rfl⟩
  |str j n=>exact absurd j o.1
  |sign j=>exact absurd j o.2
 |str h q=>
  cases z using Tok.elim with
  |name j n=>exact absurd h (zd3 j).2.1
  |num j n=>exact absurd h (zd4 j).1
  |str j n=>have:=zj8 q n;subst this;exact⟨rfl,rfl⟩
  |sign j=>rw[h] at j;unfold zaS at j;omega
 |sign h=>
  cases z using Tok.elim with
  |name j n=>exact absurd h (zd3 j).2.2
  |num j n=>exact absurd h (zd4 j).2
  |str j n=>rw[j] at h;unfold zaS at h;omega
  |sign j=>exact⟨rfl,rfl⟩
theorem zd5 {s:ByteArray} {n:Bool} {a:Nat} {t:Tk} {e:Nat} (o:a<s.size) (h:Tok s n a t e):a<e∧e≤s.size∧t.pos=a:=by
 cases h using Tok.elim with
 |name h j=>
  refine⟨?_,j.2.1,rfl⟩
  rcases Nat.lt_or_ge a e with k|k
  ·exact k
  ·have q:e=a:=by have:=j.1;omega
   subst q
   have:=j.2.2.2 o
   simp[zE,h] at this
 |num h j=>exact⟨j.2.1,j.1.2.1,rfl⟩
 |str h j=>exact⟨by have:=j.1;omega,j.2.1,rfl⟩
 |sign h=>exact⟨by omega,by omega,rfl⟩
abbrev zbM (s:ByteArray) (a:Nat):Prop:=bt s a=47∧a+1<s.size∧bt s (a+1)=47
def zjA (s:ByteArray) (P:Nat→Nat→Prop):Prop:=P s.size s.size∧(∀a,a<s.size→¬zcc (bt s a)→¬zbM s a→P a a)∧(∀a b,a<s.size→zcc (bt s a)→P (a+1) b→P a b)∧∀a c b,a<s.size→zbM s a→zau zbb s a c→P c b→P a b
def Skip (s:ByteArray) (a b:Nat):Prop:=∀P,zjA s P→P a b
theorem Skip.done {s:ByteArray}:Skip s s.size s.size:=fun _ k=>k.1
theorem Skip.stop {s:ByteArray} {a:Nat} (h:a<s.size) (j: ¬zcc (bt s a)) (n: ¬zbM s a):Skip s a a:=fun _ k=>k.2.1 a h j n
theorem Skip.blank {s:ByteArray} {a b:Nat} (h:a<s.size) (j:zcc (bt s a)) (r:Skip s (a+1) b):Skip s a b:=fun P k=>k.2.2.1 a b h j (r P k)
theorem Skip.comment {s:ByteArray} {a c b:Nat} (h:a<s.size) (j:zbM s a) (n:zau zbb s a c) (r:Skip s c b):Skip s a b:=fun P k=>k.2.2.2 a c b h j n (r P k)
theorem Skip.ind {s:ByteArray} {motive:(a b:Nat)→Skip s a b→Prop} {a b:Nat} (h:Skip s a b) (done:motive _ _ .done) (stop: ∀{a:Nat} (h:a<s.size) (h1: ¬zcc (bt s a)) (h2: ¬zbM s a),motive a a (.stop h h1 h2)) (blank: ∀{a b:Nat} (h:a<s.size) (h1:zcc (bt s a)) (r:Skip s (a+1) b),motive _ _ r→motive a b (.blank h h1 r)) (comment: ∀{a c b:Nat} (h:a<s.size) (h1:zbM s a) (hc:zau zbb s a c) (r:Skip s c b),motive _ _ r→motive a b (.comment h h1 hc r)):motive a b h:=
 (h (fun a b=>∃k,motive a b k) ⟨⟨_,done⟩,fun _ h h1 h2=>⟨_,stop h h1 h2⟩,fun _ _ h h1 ⟨r,k⟩=>⟨_,blank h h1 r k⟩,fun _ _ _ h h1 hc ⟨r,k⟩=>⟨_,comment h h1 hc r k⟩⟩).2
theorem Skip.elim {s:ByteArray} {motive:(a b:Nat)→Skip s a b→Prop} {a b:Nat} (h:Skip s a b) (done:motive _ _ .done) (stop: ∀{a:Nat} (h:a<s.size) (h1: ¬zcc (bt s a)) (h2: ¬zbM s a),motive a a (.stop h h1 h2)) (blank: ∀{a b:Nat} (h:a<s.size) (h1:zcc (bt s a)) (r:Skip s (a+1) b),motive a b (.blank h h1 r)) (comment: ∀{a c b:Nat} (h:a<s.size) (h1:zbM s a) (hc:zau zbb s a c) (r:Skip s c b),motive a b (.comment h h1 hc r)):motive a b h:=
 h.ind done stop (fun h h1 r _=>blank h h1 r) (fun h h1 hc r _=>comment h h1 hc r)
theorem zgE {s:ByteArray} {a:Nat} (h:zbM s a): ¬zcc (bt s a):=by rw[h.1];unfold zcc;omega
theorem zgF {s:ByteArray} {a z b2:Nat} (D:Skip s a z):Skip s a b2→z=b2:=by
 induction D using Skip.ind with
 |done=>
  intro j
  generalize E:s.size=x at j
  cases j using Skip.elim with
  |done=>rfl
  |stop h _ _=>omega
  |blank h _ _=>omega
  |comment h _ _ _=>omega
 |stop h n w=>
  intro j
  cases j using Skip.elim with
  |done=>rfl
  |stop _ _ _=>rfl
  |blank _ k _=>exact absurd k n
  |comment _ k _ _=>exact absurd k w
 |blank h k _ o=>
  intro j
  cases j using Skip.elim with
  |done=>exact absurd h (Nat.lt_irrefl _)
  |stop _ n _=>exact absurd k n
  |blank _ _ r=>exact o r
  |comment _ n _ _=>exact absurd k (zgE n)
 |comment h k A _ o=>
  intro j
  cases j using Skip.elim with
  |done=>exact absurd h (Nat.lt_irrefl _)
  |stop _ _ w=>exact absurd k w
  |blank _ n _=>exact absurd n (zgE k)
  |comment _ _ q r=>have:=zec A q;subst this;exact o r
theorem zf9 {s:ByteArray} {a b:Nat} (h:Skip s a b):a≤b∧b≤s.size:=by
 induction h using Skip.ind with
 |done=>exact⟨Nat.le_refl _,Nat.le_refl _⟩
 |stop h _ _=>exact⟨Nat.le_refl _,by omega⟩
 |blank h _ _ j=>exact⟨by omega,j.2⟩
 |comment h _ n _ j=>exact⟨by have:=n.1;omega,j.2⟩
def LxK (s:ByteArray) (scr:Bool) (P:Nat→Nat→Except Nat (List Tk)→Prop):Prop:=(∀n,P s.size n (.ok []))∧(∀a n,a<s.size→(4000≤n∨∀t e,¬Tok s scr a t e)→P a n (.error a))∧∀a n e b t r,a<s.size→n<4000→Tok s scr a t e→Skip s e b→P b (n+1) r→P a n (r.map (t:: ·))
def Lx (s:ByteArray) (scr:Bool) (a n:Nat) (r:Except Nat (List Tk)):Prop:=∀P,LxK s scr P→P a n r
theorem Lx.done {s:ByteArray} {h:Bool} {n:Nat}:Lx s h s.size n (.ok []):=fun _ k=>k.1 n
theorem Lx.bad {s:ByteArray} {j:Bool} {a n:Nat} (h:a<s.size) (o:4000≤n∨∀t e,¬Tok s j a t e):Lx s j a n (.error a):=fun _ k=>k.2.1 a n h o
theorem Lx.tok {s:ByteArray} {j:Bool} {a n e b:Nat} {t:Tk} {r:Except Nat (List Tk)} (h:a<s.size) (o:n<4000) (w:Tok s j a t e) (q:Skip s e b) (z:Lx s j b (n+1) r):Lx s j a n (r.map (t:: ·)):=fun P k=>k.2.2 a n e b t r h o w q (z P k)
theorem Lx.ind {s:ByteArray} {scr:Bool} {motive:(a n:Nat)→(r:Except Nat (List Tk))→Lx s scr a n r→Prop} {a n:Nat} {r:Except Nat (List Tk)} (h:Lx s scr a n r) (done: ∀{n:Nat},motive _ n _ .done) (bad: ∀{a n:Nat} (h:a<s.size) (h1:4000≤n∨∀t e,¬Tok s scr a t e),motive a n _ (.bad h h1)) (tok: ∀{a n e b:Nat} {t:Tk} {r:Except Nat (List Tk)} (h:a<s.size) (hn:n<4000) (ht:Tok s scr a t e) (hs:Skip s e b) (hr:Lx s scr b (n+1) r),motive _ _ _ hr→motive a n _ (.tok h hn ht hs hr)):motive a n r h:=
 (h (fun a n r=>∃k,motive a n r k) ⟨fun _=>⟨_,done⟩,fun _ _ h h1=>⟨_,bad h h1⟩,fun _ _ _ _ _ _ h hn ht hs ⟨hr,k⟩=>⟨_,tok h hn ht hs hr k⟩⟩).2
theorem Lx.elim {s:ByteArray} {scr:Bool} {motive:(a n:Nat)→(r:Except Nat (List Tk))→Lx s scr a n r→Prop} {a n:Nat} {r:Except Nat (List Tk)} (h:Lx s scr a n r) (done: ∀{n:Nat},motive _ n _ .done) (bad: ∀{a n:Nat} (h:a<s.size) (h1:4000≤n∨∀t e,¬Tok s scr a t e),motive a n _ (.bad h h1)) (tok: ∀{a n e b:Nat} {t:Tk} {r:Except Nat (List Tk)} (h:a<s.size) (hn:n<4000) (ht:Tok s scr a t e) (hs:Skip s e b) (hr:Lx s scr b (n+1) r),motive a n _ (.tok h hn ht hs hr)):motive a n r h:=
 h.ind done bad (fun h hn ht hs hr _=>tok h hn ht hs hr)
theorem zjB {s:ByteArray} {o:Bool} {a n:Nat} {D z:Except Nat (List Tk)} (J:Lx s o a n D):Lx s o a n z→D=z:=by
 induction J using Lx.ind generalizing z with
 |done=>
  intro j
  generalize K:s.size=x at j
  cases j using Lx.elim with
  |done=>rfl
  |bad h _=>omega
  |tok h _ _ _ _=>omega
 |bad h k=>
  intro j
  cases j using Lx.elim with
  |done=>exact absurd h (Nat.lt_irrefl _)
  |bad _ _=>rfl
  |tok _ H q _ _=>exact k.elim (fun k=>by omega) fun k=>absurd q (k _ _)
 |tok h H q I _ E=>
  intro j
  cases j using Lx.elim with
  |done=>exact absurd h (Nat.lt_irrefl _)
  |bad _ k=>exact k.elim (fun k=>by omega) fun k=>absurd q (k _ _)
  |tok _ _ w A r=>
   obtain⟨rfl,rfl⟩:=zj9 q w
   have:=zgF I A
   subst this
   rw[E r]
def zac (s:ByteArray) (scr:Bool) (r:Except Nat (List Tk)):Prop:=∃a,Skip s 0 a∧Lx s scr a 0 r
theorem zjC {s:ByteArray} {h:Bool} {j n:Except Nat (List Tk)} (w:zac s h j) (z:zac s h n):j=n:=by
 obtain⟨a,o,q⟩:=w
 obtain⟨b,D,A⟩:=z
 have:=zgF o D
 subst this
 exact zjB q A
structure Ex where
 kind:Int
 num:Int
 name:ByteArray
 field:ByteArray
 l:Int
 r:Int
structure Sm where
 kind:Int
 name:ByteArray
 expr:Int
structure Im where
 spec:ByteArray
 first:ByteArray
 loc:ByteArray
structure Ep where
 kind:Int
 name:ByteArray
 loc:ByteArray
 spec:ByteArray
structure Cx where
 ts:List Tk
 fin:Nat
 scr:Bool
structure PS where
 pos:Nat
 rq:List ByteArray
 im:List Im
 ep:List Ep
 st:List Sm
 ex:List Ex
 la:List Ep
abbrev PR:=Except Nat PS
abbrev sNone:ByteArray:={data:=#[]}
abbrev zae:ByteArray:={data:=#[105,109,112,111,114,116]}
abbrev zad:ByteArray:={data:=#[101,120,112,111,114,116]}
abbrev sDefault:ByteArray:={data:=#[100,101,102,97,117,108,116]}
abbrev zA:ByteArray:={data:=#[108,101,116]}
abbrev zO:ByteArray:={data:=#[102,117,110,99,116,105,111,110]}
abbrev zd6:ByteArray:={data:=#[114,101,116,117,114,110]}
abbrev zap:ByteArray:={data:=#[112,114,105,110,116]}
abbrev za0:ByteArray:={data:=#[116,104,114,111,119]}
abbrev zby:ByteArray:={data:=#[102,97,105,108]}
abbrev za4:ByteArray:={data:=#[117,110,100,101,102]}
abbrev sAs:ByteArray:={data:=#[97,115]}
abbrev zP:ByteArray:={data:=#[102,114,111,109]}
abbrev zbG:ByteArray:={data:=#[42,100,101,102,97,117,108,116]}
abbrev zm:ByteArray:={data:=#[40]}
abbrev zay:ByteArray:={data:=#[41]}
abbrev zv:ByteArray:={data:=#[42]}
abbrev zbN:ByteArray:={data:=#[43]}
abbrev zbp:ByteArray:={data:=#[44]}
abbrev zaT:ByteArray:={data:=#[45]}
abbrev cPoint:ByteArray:={data:=#[46]}
abbrev cSemi:ByteArray:={data:=#[59]}
abbrev cEq:ByteArray:={data:=#[61]}
abbrev zF:ByteArray:={data:=#[123]}
abbrev zbd:ByteArray:={data:=#[125]}
def bd {α β:Type} (x:Except Nat α) (f:α→Except Nat β):Except Nat β:=
 match x with
 | .ok a=>f a
 | .error e=>.error e
theorem zx {α β:Type} (a:α) (f:α→Except Nat β):bd (.ok a) f=f a:=rfl
theorem zd7 {α β:Type} (e:Nat) (f:α→Except Nat β):bd (.error e) f= .error e:=rfl
theorem zK {α β γ:Type} (x:Except Nat α) (f:α→Except Nat β) (g:β→Except Nat γ):bd (bd x f) g=bd x fun a=>bd (f a) g:=by cases x<;>rfl
theorem zZ {α β:Type} {x:Except Nat α} {f g:α→Except Nat β} (h: ∀a,x= .ok a→f a=g a):bd x f=bd x g:=by
 cases x with
 |ok a=>exact h a rfl
 |error e=>rfl
theorem zi {α β:Type} {x:Except Nat α} {f:α→Except Nat β} {b:β} (h:bd x f= .ok b): ∃a,x= .ok a∧f a= .ok b:=by
 cases x with
 |ok a=>exact⟨a,rfl,h⟩
 |error e=>cases h
def ze (C:Cx) (i:Nat):Tk:=C.ts.getD i ⟨0,sNone,0,C.fin⟩
def zq (C:Cx) (i:Nat):Nat:=(ze C i).pos
def isT (C:Cx) (i:Nat) (k:Int) (x:ByteArray):Bool:=((ze C i).kind==k)&&((ze C i).text.toList==x.toList)
def adv (q:PS):PS:={q with pos:=q.pos+1}
def zd (C:Cx) (k:Int) (x:ByteArray) (q:PS):PR:=if isT C q.pos k x then .ok (adv q) else .error (zq C q.pos)
def zs (x:ByteArray) (scr:Bool):Bool:=
 x.toList==[105,109,112,111,114,116]||x.toList==[101,120,112,111,114,116]||x.toList==[100,101,102,97,117,108,116]||x.toList==[108,101,116]||x.toList==[102,117,110,99,116,105,111,110]||x.toList==[114,101,116,117,114,110]||x.toList==[112,114,105,110,116]||x.toList==[116,104,114,111,119]
  ||((x.toList==[102,97,105,108]||x.toList==[117,110,100,101,102])&&scr)
def zB (C:Cx) (i:Nat) (o:Bool):Bool:=((ze C i).kind==1)&&(!zs (ze C i).text C.scr||(o&&((ze C i).text.toList==[100,101,102,97,117,108,116])))
def zh (C:Cx) (o:Bool) (q:PS):Except Nat (PS×ByteArray):=if zB C q.pos o then .ok (adv q,(ze C q.pos).text) else .error (zq C q.pos)
def zaO (l:List ByteArray) (x:ByteArray):Bool:=l.any fun y=>y.toList==x.toList
def zG (C:Cx) (q:PS):Except Nat (PS×ByteArray):=
 if (ze C q.pos).kind==3 then
  if zaO q.rq (ze C q.pos).text then .ok (adv q,(ze C q.pos).text)
  else if 40≤q.rq.length then .error (zq C q.pos)
  else .ok ({adv q with rq:=q.rq++[(ze C q.pos).text]},(ze C q.pos).text)
 else .error (zq C q.pos)
def zao (C:Cx) (x:Im) (q:PS):PR:=if 40≤q.im.length then .error (zq C (q.pos-1)) else .ok {q with im:=q.im++[x]}
def zn (C:Cx) (x:Ep) (q:PS):PR:=
 if 40≤q.ep.length+q.la.length then .error (zq C (q.pos-1))
 else if x.loc.toList==[42,100,101,102,97,117,108,116] then .ok {q with la:=q.la++[x]} else .ok {q with ep:=q.ep++[x]}
def zX (C:Cx) (k:Int) (n:ByteArray) (q:PS):PR:=if 80≤q.st.length then .error (zq C (q.pos-1)) else .ok {q with st:=q.st++[⟨k,n,(q.ex.length:Int)-1⟩]}
def zM (C:Cx) (x:Ex) (q:PS):PR:=if 300≤q.ex.length then .error (zq C (q.pos-1)) else .ok {q with ex:=q.ex++[x]}
def zbq (C:Cx) (n:ByteArray) (q:PS):PR:=
 if isT C q.pos 4 zm then bd (bd (zd C 4 zm q) (zd C 4 zay)) (zM C ⟨3,0,n,sNone,0,0⟩) else zM C ⟨2,0,n,sNone,0,0⟩ q
def zbz (C:Cx) (n f:ByteArray) (q:PS):PR:=
 if isT C q.pos 4 zm then bd (bd (zd C 4 zm q) (zd C 4 zay)) (zM C ⟨5,0,n,f,0,0⟩) else zM C ⟨4,0,n,f,0,0⟩ q
abbrev NT:Type:=Option (Option (Option (Option Unit)))
abbrev NT.sum:NT:=none
abbrev NT.sumT:NT:=some none
abbrev NT.prod:NT:=some (some none)
abbrev NT.prodT:NT:=some (some (some none))
abbrev NT.part:NT:=some (some (some (some ())))
theorem NT.elim {motive:NT→Prop} (nt:NT) (sum:motive .sum) (sumT:motive .sumT) (prod:motive .prod) (prodT:motive .prodT) (part:motive .part):motive nt:=
 match nt with
 |none=>sum
 |some none=>sumT
 |some (some none)=>prod
 |some (some (some none))=>prodT
 |some (some (some (some ())))=>part
def zcH (C:Cx) (i:Nat):Int:=if isT C i 4 zaT then 7 else 6
def ev (C:Cx):Nat→NT→Nat→PS→PR
 |0,_,_,_=>.error 0
 |f+1,none,d,q=>bd (ev C f .prod d q) (ev C f .sumT d)
 |f+1,some none,d,q=>
  if isT C q.pos 4 zbN||isT C q.pos 4 zaT then
   bd (bd (ev C f .prod d (adv q)) fun q'=>zM C ⟨zcH C q.pos,0,sNone,sNone,(q.ex.length:Int)-1,(q'.ex.length:Int)-1⟩ q') (ev C f .sumT d)
  else .ok q
 |f+1,some (some none),d,q=>bd (ev C f .part d q) (ev C f .prodT d)
 |f+1,some (some (some none)),d,q=>
  if isT C q.pos 4 zv then
   bd (bd (ev C f .part d (adv q)) fun q'=>zM C ⟨8,0,sNone,sNone,(q.ex.length:Int)-1,(q'.ex.length:Int)-1⟩ q') (ev C f .prodT d)
  else .ok q
 |f+1,some (some (some (some ()))),d,q=>
  if (ze C q.pos).kind==2 then zM C ⟨1,(ze C q.pos).num,sNone,sNone,0,0⟩ (adv q)
  else if isT C q.pos 4 zm then
   if 20≤d then .error (zq C q.pos) else bd (ev C f .sum (d+1) (adv q)) (zd C 4 zay)
  else if C.scr&&isT C q.pos 1 za4 then zbq C za4 (adv q)
  else bd (zh C false q) fun x=>if isT C x.1.pos 4 cPoint then bd (zh C true (adv x.1)) fun y=>zbz C x.2 y.2 y.1 else zbq C x.2 x.1
def nd (C:Cx) (nt:NT) (q:PS):Nat:=
 5*(C.ts.length-q.pos)+match nt with
  | .sum=>3
  | .prod=>2
  |_=>1
def pE (C:Cx) (nt:NT) (d:Nat) (q:PS):PR:=ev C (nd C nt q) nt d q
theorem zdb {C:Cx} {i:Nat} (h:C.ts.length≤i):ze C i=⟨0,sNone,0,C.fin⟩:=by simp[ze,List.getD,List.getElem?_eq_none h]
theorem zaz {C:Cx} {i:Nat} {k:Int} {x:ByteArray} (h:isT C i k x=true) (j:k≠0):i<C.ts.length:=by
 rcases Nat.lt_or_ge i C.ts.length with g|g
 ·exact g
 ·simp only[isT,zdb g,Bool.and_eq_true,beq_iff_eq] at h
  exact absurd h.1.symm j
theorem zeI {C:Cx} {i:Nat} {k:Int} (h:((ze C i).kind==k)=true) (j:k≠0):i<C.ts.length:=by
 rcases Nat.lt_or_ge i C.ts.length with g|g
 ·exact g
 ·simp only[zdb g,beq_iff_eq] at h
  exact absurd h.symm j
theorem zed {C:Cx} {i:Nat} {o:Bool} (h:zB C i o=true):i<C.ts.length:=by
 simp only[zB,Bool.and_eq_true] at h
 exact zeI h.1 (by decide)
theorem zb0 {C:Cx} {k:Int} {x:ByteArray} {q q':PS} (h:zd C k x q= .ok q'):q'=adv q∧isT C q.pos k x=true:=by
 unfold zd at h
 split at h
 ·next g=>exact⟨by cases h;rfl,g⟩
 ·cases h
theorem zbe {C:Cx} {o:Bool} {q:PS} {y:PS×ByteArray} (h:zh C o q= .ok y):y=(adv q,(ze C q.pos).text)∧zB C q.pos o=true:=by
 unfold zh at h
 split at h
 ·next g=>exact⟨by cases h;rfl,g⟩
 ·cases h
theorem zb1 {C:Cx} {x:Ex} {q q':PS} (h:zM C x q= .ok q'):q'={q with ex:=q.ex++[x]}∧q.ex.length<300:=by
 unfold zM at h
 split at h
 ·cases h
 ·cases h
  exact⟨rfl,by omega⟩
theorem zw (q:PS):(adv q).pos=q.pos+1:=rfl
theorem zgG {C:Cx} {n:ByteArray} {q q':PS} (h:zbq C n q= .ok q'):q.pos≤q'.pos:=by
 unfold zbq at h
 split at h
 ·obtain⟨a,j,o⟩:=zi h
  obtain⟨b,w,z⟩:=zi j
  obtain⟨rfl,_⟩:=zb0 w
  obtain⟨rfl,_⟩:=zb0 z
  obtain⟨rfl,_⟩:=zb1 o
  show q.pos≤q.pos+1+1
  omega
 ·obtain⟨rfl,_⟩:=zb1 h
  exact Nat.le_refl _
theorem zjD {C:Cx} {n f:ByteArray} {q q':PS} (h:zbz C n f q= .ok q'):q.pos≤q'.pos:=by
 unfold zbz at h
 split at h
 ·obtain⟨a,j,o⟩:=zi h
  obtain⟨b,w,z⟩:=zi j
  obtain⟨rfl,_⟩:=zb0 w
  obtain⟨rfl,_⟩:=zb0 z
  obtain⟨rfl,_⟩:=zb1 o
  show q.pos≤q.pos+1+1
  omega
 ·obtain⟨rfl,_⟩:=zb1 h
  exact Nat.le_refl _
theorem zee {C:Cx} (f:Nat): ∀(w:NT) (d:Nat) (q q':PS),ev C f w d q= .ok q'→q.pos≤q'.pos:=by
 induction f with
 |zero=>intro w d q q' h;cases w using NT.elim<;>cases h
 |succ f o=>
  intro w d q q' h
  cases w using NT.elim with
  |sum=>
   rw[ev] at h
   obtain⟨a,n,j⟩:=zi h
   exact Nat.le_trans (o _ _ _ _ n) (o _ _ _ _ j)
  |prod=>
   rw[ev] at h
   obtain⟨a,n,j⟩:=zi h
   exact Nat.le_trans (o _ _ _ _ n) (o _ _ _ _ j)
  |sumT=>
   rw[ev] at h
   split at h
   ·obtain⟨a,n,j⟩:=zi h
    obtain⟨b,D,E⟩:=zi n
    obtain⟨rfl,_⟩:=zb1 E
    have A:=o _ _ _ _ D
    have H:=o _ _ _ _ j
    rw[zw] at A
    exact Nat.le_trans (by omega:q.pos≤b.pos) H
   ·cases h
    exact Nat.le_refl _
  |prodT=>
   rw[ev] at h
   split at h
   ·obtain⟨a,n,j⟩:=zi h
    obtain⟨b,D,E⟩:=zi n
    obtain⟨rfl,_⟩:=zb1 E
    have A:=o _ _ _ _ D
    have H:=o _ _ _ _ j
    rw[zw] at A
    exact Nat.le_trans (by omega:q.pos≤b.pos) H
   ·cases h
    exact Nat.le_refl _
  |part=>
   rw[ev] at h
   split at h
   ·obtain⟨rfl,_⟩:=zb1 h
    show q.pos≤q.pos+1
    omega
   ·split at h
    ·split at h
     ·cases h
     ·obtain⟨a,n,j⟩:=zi h
      obtain⟨rfl,_⟩:=zb0 j
      have A:=o _ _ _ _ n
      rw[zw] at A ⊢
      omega
    ·split at h
     ·have:=zgG h
      rw[zw] at this
      omega
     ·obtain⟨y,n,j⟩:=zi h
      obtain⟨rfl,_⟩:=zbe n
      simp only at j
      split at j
      ·obtain⟨z,D,E⟩:=zi j
       obtain⟨rfl,_⟩:=zbe D
       have:=zjD E
       simp only[zw] at this
       omega
      ·have:=zgG j
       rw[zw] at this
       omega
theorem zjE {C:Cx} (f:Nat): ∀(g:Nat) (n:NT) (d:Nat) (q:PS),nd C n q≤f→nd C n q≤g→ev C f n d q=ev C g n d q:=by
 induction f with
 |zero=>intro g n d q h;unfold nd at h;cases n using NT.elim<;>simp at h
 |succ f j=>
  intro g n d q D w
  obtain⟨g,rfl⟩: ∃I,g=I+1:=by
   match g with
   |0=>unfold nd at w;cases n using NT.elim<;>simp at w
   |g+1=>exact⟨g,rfl⟩
  cases n using NT.elim with
  |sum=>
   simp only[nd] at D w
   rw[ev,ev,j g .prod d q (by simp only[nd];omega) (by simp only[nd];omega)]
   refine zZ fun a o=>?_
   have:=zee _ _ _ _ _ o
   exact j g .sumT d a (by simp only[nd];omega) (by simp only[nd];omega)
  |prod=>
   simp only[nd] at D w
   rw[ev,ev,j g .part d q (by simp only[nd];omega) (by simp only[nd];omega)]
   refine zZ fun a o=>?_
   have:=zee _ _ _ _ _ o
   exact j g .prodT d a (by simp only[nd];omega) (by simp only[nd];omega)
  |sumT=>
   simp only[nd] at D w
   rw[ev,ev]
   split
   ·next z=>
    have A:q.pos<C.ts.length:=by
     rw[Bool.or_eq_true] at z
     exact z.elim (fun k=>zaz k (by decide)) fun k=>zaz k (by decide)
    rw[j g .prod d (adv q) (by simp only[nd,zw];omega) (by simp only[nd,zw];omega)]
    refine zZ fun a o=>?_
    obtain⟨b,E,H⟩:=zi o
    obtain⟨rfl,_⟩:=zb1 H
    have:=zee _ _ _ _ _ E
    rw[zw] at this
    exact j g .sumT d _ (by simp only[nd];omega) (by simp only[nd];omega)
   ·rfl
  |prodT=>
   simp only[nd] at D w
   rw[ev,ev]
   split
   ·next z=>
    have A:q.pos<C.ts.length:=zaz z (by decide)
    rw[j g .part d (adv q) (by simp only[nd,zw];omega) (by simp only[nd,zw];omega)]
    refine zZ fun a o=>?_
    obtain⟨b,E,H⟩:=zi o
    obtain⟨rfl,_⟩:=zb1 H
    have:=zee _ _ _ _ _ E
    rw[zw] at this
    exact j g .prodT d _ (by simp only[nd];omega) (by simp only[nd];omega)
   ·rfl
  |part=>
   simp only[nd] at D w
   rw[ev,ev]
   split
   ·rfl
   ·split
    ·next z=>
     have A:q.pos<C.ts.length:=zaz z (by decide)
     split
     ·rfl
     ·rw[j g .sum (d+1) (adv q) (by simp only[nd,zw];omega) (by simp only[nd,zw];omega)]
    ·rfl
theorem zcy {C:Cx} {f d:Nat} {j:NT} {q:PS} (h:nd C j q≤f):ev C f j d q=pE C j d q:=zjE f _ j d q h (Nat.le_refl _)
theorem zaP {C:Cx} {j:NT} {d:Nat} {q q':PS} (h:pE C j d q= .ok q'):q.pos≤q'.pos:=zee _ _ _ _ _ h
theorem zef {C:Cx} {h:NT} {d:Nat} {q:PS}:pE C h d q=ev C (nd C h q+1) h d q:=(zcy (Nat.le_succ _)).symm
theorem zgH (C:Cx) (d:Nat) (q:PS):pE C .sum d q=bd (pE C .prod d q) (pE C .sumT d):=by
 rw[zef,ev,zcy (by simp only[nd];omega)]
 refine zZ fun a h=>?_
 have:=zaP h
 exact zcy (by simp only[nd];omega)
theorem zgI (C:Cx) (d:Nat) (q:PS):pE C .prod d q=bd (pE C .part d q) (pE C .prodT d):=by
 rw[zef,ev,zcy (by simp only[nd];omega)]
 refine zZ fun a h=>?_
 have:=zaP h
 exact zcy (by simp only[nd];omega)
theorem zeg (C:Cx) (d:Nat) (q:PS):pE C .sumT d q=
  if isT C q.pos 4 zbN||isT C q.pos 4 zaT then
   bd (bd (pE C .prod d (adv q)) fun q'=>zM C ⟨zcH C q.pos,0,sNone,sNone,(q.ex.length:Int)-1,(q'.ex.length:Int)-1⟩ q') (pE C .sumT d)
  else .ok q:=by
 rw[zef,ev]
 split
 ·next h=>
  have o:q.pos<C.ts.length:=by
   rw[Bool.or_eq_true] at h
   exact h.elim (fun k=>zaz k (by decide)) fun k=>zaz k (by decide)
  rw[zcy (by simp only[nd,zw];omega)]
  refine zZ fun a j=>?_
  obtain⟨b,n,w⟩:=zi j
  obtain⟨rfl,_⟩:=zb1 w
  have:=zaP n
  rw[zw] at this
  exact zcy (by simp only[nd];omega)
 ·rfl
theorem zeJ (C:Cx) (d:Nat) (q:PS):pE C .prodT d q=
  if isT C q.pos 4 zv then
   bd (bd (pE C .part d (adv q)) fun q'=>zM C ⟨8,0,sNone,sNone,(q.ex.length:Int)-1,(q'.ex.length:Int)-1⟩ q') (pE C .prodT d)
  else .ok q:=by
 rw[zef,ev]
 split
 ·next j=>
  have o:q.pos<C.ts.length:=zaz j (by decide)
  rw[zcy (by simp only[nd,zw];omega)]
  refine zZ fun a h=>?_
  obtain⟨b,n,w⟩:=zi h
  obtain⟨rfl,_⟩:=zb1 w
  have:=zaP n
  rw[zw] at this
  exact zcy (by simp only[nd];omega)
 ·rfl
theorem zbv (C:Cx) (d:Nat) (q:PS):pE C .part d q=
  if (ze C q.pos).kind==2 then zM C ⟨1,(ze C q.pos).num,sNone,sNone,0,0⟩ (adv q)
  else if isT C q.pos 4 zm then
   if 20≤d then .error (zq C q.pos) else bd (pE C .sum (d+1) (adv q)) (zd C 4 zay)
  else if C.scr&&isT C q.pos 1 za4 then zbq C za4 (adv q)
  else bd (zh C false q) fun x=>if isT C x.1.pos 4 cPoint then bd (zh C true (adv x.1)) fun y=>zbz C x.2 y.2 y.1 else zbq C x.2 x.1:=by
 rw[zef,ev]
 split
 ·rfl
 ·split
  ·next h=>
   have j:q.pos<C.ts.length:=zaz h (by decide)
   split
   ·rfl
   ·rw[zcy (by simp only[nd,zw];omega)]
  ·rfl
theorem zeh (k:Nat):(0:Int)<10^k:=Int.pow_pos (by omega)
theorem zdc (k:Nat):(10:Int)^(k+1)=10^k*10:=Int.pow_succ _ _
theorem zei {a b:Nat} (h:a≤b):(10:Int)^a≤10^b:=by
 induction b with
 |zero=>
  obtain rfl:a=0:=by omega
  exact Int.le_refl _
 |succ b j=>
  by_cases e:a=b+1
  ·rw[e];exact Int.le_refl _
  ·have:=j (by omega)
   have:=zeh b
   rw[zdc]
   omega
theorem zd8 (n:Int) (k:Nat):n/10^k/10=n/10^(k+1):=by
 rw[zdc,Int.ediv_ediv_of_nonneg (Int.le_of_lt (zeh k))]
theorem zd9 (n:Int) (k:Nat) (h:0≤n):0≤n/10^k∧n/10^k≤n:=
 ⟨Int.ediv_nonneg h (Int.le_of_lt (zeh k)),Int.ediv_le_self _ h⟩
def dc:Nat→Int→Nat
 |0,_=>1
 |f+1,q=>if q<10 then 1 else dc f (q/10)+1
theorem zjF (f:Nat) (q:Int) (o:0≤q) (h:q<10^(f+1)):1≤dc f q∧dc f q≤f+1∧q<10^dc f q∧(dc f q=1∨10^(dc f q-1)≤q):=by
 induction f generalizing q with
 |zero=>simpa [dc] using h
 |succ f n=>
  unfold dc
  by_cases j:q<10
  ·rw[if_pos j]
   exact⟨by omega,by omega,by simpa using j,.inl rfl⟩
  ·rw[if_neg j]
   obtain⟨a,b,c,d⟩:=n (q/10) (by omega) (by rw[zdc] at h;omega)
   refine⟨by omega,by omega,?_,.inr ?_⟩
   ·rw[zdc];omega
   ·rw[Nat.add_sub_cancel]
    rcases d with d|d
    ·rw[d]
     show (10:Int)^1≤q
     rw[show (10:Int)^1=10 from by decide]
     omega
    ·rw[show dc f (q/10)=(dc f (q/10)-1)+1 from by omega,zdc]
     omega
def dcn (m:Int):Nat:=dc 19 m
theorem zcI (m:Int) (j:0≤m) (h:m≤18446744073709551615):1≤dcn m∧dcn m≤20∧m<10^dcn m∧(dcn m=1∨10^(dcn m-1)≤m):=
 zjF 19 m j (by rw[show (10:Int)^(19+1)=100000000000000000000 by decide];omega)
theorem zjG (m:Int) (n:0≤m) (h:m≤18446744073709551615) (k:Nat):10≤m/10^k↔k+1<dcn m:=by
 obtain⟨a,b,c,d⟩:=zcI m n h
 rw[Int.le_ediv_iff_mul_le (zeh k),Int.mul_comm,←zdc]
 constructor
 ·intro j
  rcases Nat.lt_or_ge (k+1) (dcn m) with e|e
  ·exact e
  ·have:=zei e
   omega
 ·intro j
  have:=zei (show k+1≤dcn m-1 by omega)
  omega
theorem zgJ (m:Int) (n:1≤m) (h:m≤18446744073709551615) (k:Nat):m/10^k≠0↔k<dcn m:=by
 obtain⟨a,b,c,d⟩:=zcI m (by omega) h
 have o:=zd9 m k (by omega)
 have:m/10^k≠0↔1≤m/10^k:=by omega
 rw[this,Int.le_ediv_iff_mul_le (zeh k),Int.one_mul]
 constructor
 ·intro j
  rcases Nat.lt_or_ge k (dcn m) with e|e
  ·exact e
  ·have:=zei e
   omega
 ·intro j
  have:=zei (show k≤dcn m-1 by omega)
  rcases d with d|d
  ·obtain rfl:k=0:=by omega
   simpa using n
  ·omega
def dgk (m:Int):Nat→List Int
 |0=>[]
 |k+1=>(48+m/10^k%10)::dgk m k
theorem zcd (m:Int) (k:Nat):(dgk m k).length=k:=by
 induction k with
 |zero=>rfl
 |succ k h=>simp[dgk,h]
theorem zgK (m:Int) (c k:Nat) (h:k<c):(dgk m c)[c-1-k]? =some (48+m/10^k%10):=by
 induction c with
 |zero=>omega
 |succ c j=>
  by_cases e:k=c
  ·subst e
   rw[show k+1-1-k=0 from by omega]
   rfl
  ·rw[show c+1-1-k=(c-1-k)+1 from by omega,dgk,List.getElem?_cons_succ]
   exact j (by omega)
def zeK (n:Int):Int:=if n<0 then-n else n
def zb2 (n:Int):List Int:=(if n<0 then [45] else [])++dgk (zeK n) (dcn (zeK n))
theorem zfA {n:Int} (h:n<0):zb2 n=45::dgk (-n) (dcn (-n)):=by simp[zb2,h,zeK]
theorem zfB {n:Int} (h:0≤n):zb2 n=dgk n (dcn n):=by
 have: ¬n<0:=by omega
 simp[zb2,this,zeK]
theorem zjH (L:List Int):zcj L L.length=L:=by simp[zcj]
theorem zjI (x:Int) (L:List Int):(zcj (x::L) L.length).set 0 x=x::L:=by
 simp[zcj]
theorem zjJ (p:List Int) (m:Int) (c k:Nat) (h:k<c):(p++dgk m c)[(p++dgk m c).length-1-k]? =some (48+m/10^k%10):=by
 rw[List.length_append,zcd,List.getElem?_append_right (by omega),show p.length+c-1-k-p.length=c-1-k from by omega]
 exact zgK m c k h
structure Md where
 rq:List ByteArray
 im:List Im
 ep:List Ep
 st:List Sm
 ex:List Ex
def zdA (q:PS):Md:=⟨q.rq,q.im,q.ep++q.la,q.st,q.ex⟩
def zL (k:Int):Bool:=k==6||k==7
def zT (k:Int):Bool:=k==6||k==7||k==8
def zf:Ex:=⟨0,0,sNone,sNone,0,0⟩
abbrev cParens:ByteArray:={data:=#[40,41]}
abbrev tPlus:ByteArray:={data:=#[32,43,32]}
abbrev tMinus:ByteArray:={data:=#[32,45,32]}
abbrev tStar:ByteArray:={data:=#[32,42,32]}
def zC (b:Bool) (t:ByteArray):ByteArray:=if b then zm++t++zay else t
def prE (ex:List Ex):Nat→Nat→ByteArray
 |0,_=>sNone
 |f+1,i=>
  let x:=ex.getD i zf
  if x.kind==1 then strOfNums (zb2 x.num)
  else if x.kind==2 then x.name
  else if x.kind==3 then x.name++cParens
  else if x.kind==4 then x.name++cPoint++x.field
  else if x.kind==5 then x.name++cPoint++x.field++cParens
  else if x.kind==6 then prE ex f x.l.toNat++tPlus++zC (zL (ex.getD x.r.toNat zf).kind) (prE ex f x.r.toNat)
  else if x.kind==7 then prE ex f x.l.toNat++tMinus++zC (zL (ex.getD x.r.toNat zf).kind) (prE ex f x.r.toNat)
  else if x.kind==8 then zC (zL (ex.getD x.l.toNat zf).kind) (prE ex f x.l.toNat)++tStar++zC (zT (ex.getD x.r.toNat zf).kind) (prE ex f x.r.toNat)
  else sNone
def prX (ex:List Ex) (i:Nat):ByteArray:=prE ex (i+1) i
def zbf (ex:List Ex):Prop:=∀(i:Nat) (x:Ex),ex[i]? =some x→zT x.kind=true→0≤x.l∧x.l<(i:Int)∧0≤x.r∧x.r<(i:Int)
theorem zbr {k:Int} (h:(k==6)=true∨(k==7)=true∨(k==8)=true):zT k=true:=by
 unfold zT
 rcases h with h|h|h<;>simp[h]
theorem zeL {ex:List Ex} (h:zbf ex) {i:Nat} (j:zT (ex.getD i zf).kind=true):0≤(ex.getD i zf).l∧(ex.getD i zf).l<(i:Int)∧0≤(ex.getD i zf).r∧(ex.getD i zf).r<(i:Int):=by
 by_cases n:i<ex.length
 ·have e:ex.getD i zf=ex[i]:=by simp[List.getD,List.getElem?_eq_getElem n]
  rw[e] at j ⊢
  exact h i _ (List.getElem?_eq_getElem n) j
 ·have e:ex.getD i zf=zf:=by simp[List.getD,List.getElem?_eq_none (by omega:ex.length≤i)]
  rw[e] at j
  exact absurd j (by decide)
theorem zgL {ex:List Ex} (h:zbf ex) (f:Nat): ∀(g i:Nat),i<f→i<g→prE ex f i=prE ex g i:=by
 induction f with
 |zero=>intro g i E;omega
 |succ f z=>
  intro g i H I
  obtain⟨g,rfl⟩: ∃D,g=D+1:=⟨g-1,by omega⟩
  rw[prE,prE]
  have A:=fun n=>zeL h (i:=i) n
  generalize ex.getD i zf=x at A ⊢
  have j: ∀n:zT x.kind=true,prE ex f x.l.toNat=prE ex g x.l.toNat∧prE ex f x.r.toNat=prE ex g x.r.toNat:=fun n=>by
   have:=A n
   exact⟨z g _ (by omega) (by omega),z g _ (by omega) (by omega)⟩
  by_cases w:(x.kind==6)=true
  ·rw[(j (zbr (.inl w))).1,(j (zbr (.inl w))).2]
  ·by_cases o:(x.kind==7)=true
   ·rw[(j (zbr (.inr (.inl o)))).1,(j (zbr (.inr (.inl o)))).2]
   ·by_cases q:(x.kind==8)=true
    ·rw[(j (zbr (.inr (.inr q)))).1,(j (zbr (.inr (.inr q)))).2]
    ·simp only[w,o,q,Bool.false_eq_true,↓reduceIte]
theorem zfC {ex:List Ex} (h:zbf ex) (i:Nat):prX ex i=
  if (ex.getD i zf).kind==1 then strOfNums (zb2 (ex.getD i zf).num)
  else if (ex.getD i zf).kind==2 then (ex.getD i zf).name
  else if (ex.getD i zf).kind==3 then (ex.getD i zf).name++cParens
  else if (ex.getD i zf).kind==4 then (ex.getD i zf).name++cPoint++(ex.getD i zf).field
  else if (ex.getD i zf).kind==5 then (ex.getD i zf).name++cPoint++(ex.getD i zf).field++cParens
  else if (ex.getD i zf).kind==6 then prX ex (ex.getD i zf).l.toNat++tPlus++zC (zL (ex.getD (ex.getD i zf).r.toNat zf).kind) (prX ex (ex.getD i zf).r.toNat)
  else if (ex.getD i zf).kind==7 then prX ex (ex.getD i zf).l.toNat++tMinus++zC (zL (ex.getD (ex.getD i zf).r.toNat zf).kind) (prX ex (ex.getD i zf).r.toNat)
  else if (ex.getD i zf).kind==8 then zC (zL (ex.getD (ex.getD i zf).l.toNat zf).kind) (prX ex (ex.getD i zf).l.toNat)++tStar++zC (zT (ex.getD (ex.getD i zf).r.toNat zf).kind) (prX ex (ex.getD i zf).r.toNat)
  else sNone:=by
 rw[prX,prE]
 have z:=fun n=>zeL h (i:=i) n
 generalize ex.getD i zf=x at z ⊢
 have j: ∀n:zT x.kind=true,prE ex i x.l.toNat=prX ex x.l.toNat∧prE ex i x.r.toNat=prX ex x.r.toNat:=fun n=>by
  have:=z n
  exact⟨zgL h _ _ _ (by omega) (by omega),zgL h _ _ _ (by omega) (by omega)⟩
 by_cases w:(x.kind==6)=true
 ·rw[(j (zbr (.inl w))).1,(j (zbr (.inl w))).2]
 ·by_cases o:(x.kind==7)=true
  ·rw[(j (zbr (.inr (.inl o)))).1,(j (zbr (.inr (.inl o)))).2]
  ·by_cases q:(x.kind==8)=true
   ·rw[(j (zbr (.inr (.inr q)))).1,(j (zbr (.inr (.inr q)))).2]
   ·simp only[w,o,q,Bool.false_eq_true,↓reduceIte]
def zaj (ex:List Ex) (k:Int):Nat:=(ex.map fun x=>if zT x.kind then (if x.l==k then 1 else 0)+(if x.r==k then 1 else 0) else 0).sum
def zaB (st:List Sm) (k:Int):Nat:=(st.map fun s=>if s.expr==k then 1 else 0).sum
structure Tree (m:Md):Prop where
 ahead:zbf m.ex
 stm: ∀s∈m.st,0≤s.expr∧s.expr<(m.ex.length:Int)
 once: ∀k,k<m.ex.length→zaj m.ex (k:Int)+zaB m.st (k:Int)=1
def sm (k:Nat) (f:Nat→Nat):Nat:=((List.range k).map f).sum
theorem zjK (f:Nat→Nat):sm 0 f=0:=rfl
theorem zcT (k:Nat) (f:Nat→Nat):sm (k+1) f=sm k f+f k:=by
 unfold sm
 rw[List.range_succ,List.map_append,List.sum_append]
 simp
theorem zfD (k:Nat) (f g:Nat→Nat):sm k (fun j=>f j+g j)=sm k f+sm k g:=by
 induction k with
 |zero=>rfl
 |succ k h=>rw[zcT,zcT,zcT,h];omega
theorem zdd {k:Nat} {f g:Nat→Nat} (h: ∀j,j<k→f j=g j):sm k f=sm k g:=by
 induction k with
 |zero=>rfl
 |succ k n=>rw[zcT,zcT,n fun j o=>h j (by omega),h k (by omega)]
theorem zfE (k:Nat):sm k (fun _=>0)=0:=by
 induction k with
 |zero=>rfl
 |succ k h=>rw[zcT,h]
theorem zfF (f:Nat→Nat) (k:Nat) (l:Int) (w:0≤l) (h:l<(k:Int)):sm k (fun j=>(if l==(j:Int) then 1 else 0)*f j)=f l.toNat:=by
 induction k with
 |zero=>omega
 |succ k n=>
  rw[zcT]
  by_cases e:l=(k:Int)
  ·have o:sm k (fun j=>(if l==(j:Int) then 1 else 0)*f j)=0:=(zdd (g:=fun _=>0) fun j q=>by rw[if_neg (by rw[beq_iff_eq];omega)];omega).trans (zfE k)
   rw[o,if_pos (by rw[beq_iff_eq];exact e),show l.toNat=k from by omega]
   omega
  ·rw[n (by omega),if_neg (by rw[beq_iff_eq];exact e)]
   omega
def u1 (x:Ex) (k:Int):Nat:=if zT x.kind then (if x.l==k then 1 else 0)+(if x.r==k then 1 else 0) else 0
theorem zgM {ex:List Ex} {i:Nat} (h:i<ex.length) (k:Int):zaj (ex.drop i) k=u1 ex[i] k+zaj (ex.drop (i+1)) k:=by
 rw[List.drop_eq_getElem_cons h,zaj,List.map_cons,List.sum_cons]
 rfl
theorem zjL {ex:List Ex} {i:Nat} (h:ex.length≤i) (k:Int):zaj (ex.drop i) k=0:=by rw[List.drop_eq_nil_of_le h];rfl
theorem zjM {ex:List Ex} (h:zbf ex) (k:Nat) (w:k<ex.length): ∀d j,j+d=k+1→zaj (ex.drop j) (k:Int)=zaj (ex.drop (k+1)) (k:Int):=by
 intro d
 induction d with
 |zero=>intro j o;rw[show j=k+1 from by omega]
 |succ d n=>
  intro j o
  rw[zgM (by omega),n (j+1) (by omega)]
  have:u1 ex[j] (k:Int)=0:=by
   unfold u1
   split
   ·next q=>
    have:=h j _ (List.getElem?_eq_getElem (by omega)) q
    rw[if_neg (by rw[beq_iff_eq];omega),if_neg (by rw[beq_iff_eq];omega)]
   ·rfl
  omega
def wt (ex:List Ex) (i:Nat):Nat:=(prX ex i).size
def zde (x:Ex):Nat:=x.name.size+x.field.size+40
theorem zeM (b:Bool) (t:ByteArray):(zC b t).size≤t.size+2:=by
 unfold zC
 split
 ·rw[ByteArray.size_append,ByteArray.size_append]
  show 1+t.size+1≤t.size+2
  omega
 ·omega
theorem zjN (n:Int) (o: -9223372036854775808≤n) (j:n≤9223372036854775807):(strOfNums (zb2 n)).size≤21:=by
 rw[strOfNums_size]
 by_cases h:n<0
 ·rw[zfA h,List.length_cons,zcd]
  have:=(zcI (-n) (by omega) (by omega)).2.1
  omega
 ·rw[zfB (by omega),zcd]
  have:=(zcI n (by omega) (by omega)).2.1
  omega
theorem zjO {ex:List Ex} (h:zbf ex) (i:Nat) (j: -9223372036854775808≤(ex.getD i zf).num∧(ex.getD i zf).num≤9223372036854775807):
  wt ex i≤zde (ex.getD i zf)+if zT (ex.getD i zf).kind then wt ex (ex.getD i zf).l.toNat+wt ex (ex.getD i zf).r.toNat else 0:=by
 unfold wt
 rw[zfC h]
 generalize ex.getD i zf=x at j ⊢
 unfold zde
 by_cases z:(x.kind==1)=true
 ·rw[if_pos z]
  have:=zjN x.num j.1 j.2
  omega
 ·rw[if_neg z]
  by_cases D:(x.kind==2)=true
  ·rw[if_pos D];omega
  ·rw[if_neg D]
   by_cases w:(x.kind==3)=true
   ·rw[if_pos w,ByteArray.size_append]
    have:cParens.size=2:=rfl
    omega
   ·rw[if_neg w]
    by_cases E:(x.kind==4)=true
    ·rw[if_pos E,ByteArray.size_append,ByteArray.size_append]
     have:cPoint.size=1:=rfl
     omega
    ·rw[if_neg E]
     by_cases A:(x.kind==5)=true
     ·rw[if_pos A,ByteArray.size_append,ByteArray.size_append,ByteArray.size_append]
      have:cPoint.size=1:=rfl
      have:cParens.size=2:=rfl
      omega
     ·rw[if_neg A]
      by_cases q:(x.kind==6)=true
      ·rw[if_pos q,if_pos (zbr (.inl q)),ByteArray.size_append,ByteArray.size_append]
       have:=zeM (zL (ex.getD x.r.toNat zf).kind) (prX ex x.r.toNat)
       have:tPlus.size=3:=rfl
       omega
      ·rw[if_neg q]
       by_cases n:(x.kind==7)=true
       ·rw[if_pos n,if_pos (zbr (.inr (.inl n))),ByteArray.size_append,ByteArray.size_append]
        have:=zeM (zL (ex.getD x.r.toNat zf).kind) (prX ex x.r.toNat)
        have:tMinus.size=3:=rfl
        omega
       ·rw[if_neg n]
        by_cases o:(x.kind==8)=true
        ·rw[if_pos o,if_pos (zbr (.inr (.inr o))),ByteArray.size_append,ByteArray.size_append]
         have:=zeM (zL (ex.getD x.l.toNat zf).kind) (prX ex x.l.toNat)
         have:=zeM (zT (ex.getD x.r.toNat zf).kind) (prX ex x.r.toNat)
         have:tStar.size=3:=rfl
         omega
        ·rw[if_neg o]
         show 0≤_
         omega
def zbg (ex:List Ex):Prop:=∀x∈ex,-9223372036854775808≤x.num∧x.num≤9223372036854775807
theorem zdf {ex:List Ex} {i:Nat} (h:i<ex.length):ex.getD i zf=ex[i]:=by simp[List.getD,List.getElem?_eq_getElem h]
theorem zjP (f:Nat→Nat) (n:Nat): ∀o:List Sm,(∀s∈o,0≤s.expr∧s.expr<(n:Int))→(o.map fun s=>f s.expr.toNat).sum=sm n (fun j=>zaB o (j:Int)*f j):=by
 intro o
 induction o with
 |nil=>intro _;show 0=_;rw[←zfE n];exact zdd fun j _=>by simp[zaB]
 |cons s o w=>
  intro h
  rw[List.map_cons,List.sum_cons,w fun x z=>h x (List.mem_cons_of_mem _ z)]
  have q:=h s List.mem_cons_self
  rw[←zfF f n s.expr q.1 q.2,←zfD]
  refine zdd fun j _=>?_
  simp only[zaB,List.map_cons,List.sum_cons]
  rw[Nat.add_mul]
theorem zjQ {m:Md} (t:Tree m) (w:zbg m.ex): ∀d k,k+d=m.ex.length→
  (m.st.map fun s=>wt m.ex s.expr.toNat).sum≤sm k (fun j=>(zaB m.st (j:Int)+zaj (m.ex.drop k) (j:Int))*wt m.ex j)+((m.ex.drop k).map zde).sum:=by
 intro d
 induction d with
 |zero=>
  intro k A
  have:k=m.ex.length:=by omega
  subst this
  rw[zjP _ _ _ t.stm]
  refine Nat.le_trans (Nat.le_of_eq ?_) (Nat.le_add_right _ _)
  refine zdd fun j _=>?_
  rw[zjL (Nat.le_refl _),Nat.add_zero]
 |succ d q=>
  intro k A
  have h:k<m.ex.length:=by omega
  refine Nat.le_trans (q (k+1) (by omega)) ?_
  have E:zaB m.st (k:Int)+zaj (m.ex.drop (k+1)) (k:Int)=1:=by
   have:=t.once k h
   rw[←zjM t.ahead k h (k+1) 0 (by omega),List.drop_zero]
   omega
  rw[zcT,E,Nat.one_mul,List.drop_eq_getElem_cons h,List.map_cons,List.sum_cons]
  have H:=zjO t.ahead k (by rw[zdf h];exact w _ (List.getElem_mem h))
  rw[zdf h] at H
  have z:sm k (fun j=>(zaB m.st (j:Int)+zaj (m.ex.drop k) (j:Int))*wt m.ex j)=sm k (fun j=>(zaB m.st (j:Int)+zaj (m.ex.drop (k+1)) (j:Int))*wt m.ex j)+if zT m.ex[k].kind then wt m.ex m.ex[k].l.toNat+wt m.ex m.ex[k].r.toNat else 0:=by
   have e: ∀j:Nat,(zaB m.st (j:Int)+zaj (m.ex.drop k) (j:Int))*wt m.ex j=(zaB m.st (j:Int)+zaj (m.ex.drop (k+1)) (j:Int))*wt m.ex j+u1 m.ex[k] (j:Int)*wt m.ex j:=fun j=>by
    rw[zgM h,←Nat.add_mul]
    congr 1
    omega
   rw[zdd fun j _=>e j,zfD]
   congr 1
   split
   ·next o=>
    have n:=t.ahead k _ (List.getElem?_eq_getElem h) o
    rw[←zfF (wt m.ex) k _ n.1 n.2.1,←zfF (wt m.ex) k _ n.2.2.1 n.2.2.2,←zfD]
    refine zdd fun j _=>?_
    rw[u1,if_pos o,Nat.add_mul]
   ·next o=>
    rw[←zfE k]
    refine zdd fun j _=>?_
    rw[u1,if_neg o,Nat.zero_mul]
  have D:zaj (m.ex[k]::m.ex.drop (k+1))=zaj (m.ex.drop k):=by rw[←List.drop_eq_getElem_cons h]
  rw[D,z]
  omega
theorem zjR {m:Md} (t:Tree m) (h:zbg m.ex):(m.st.map fun s=>wt m.ex s.expr.toNat).sum≤(m.ex.map zde).sum:=by
 have:=zjQ t h m.ex.length 0 (by omega)
 rw[zjK,Nat.zero_add,List.drop_zero] at this
 exact this
end Go.Proofs.YticdggnnpjachaaGreat
