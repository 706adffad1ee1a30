/-
  Plain facts of numbers and bytes,and small facts on what a call hands back: no program is spoken of.
  Two small facts: a block more,and a fact laid by. No program is spoken of.
  Strings made of byte slices: what 'string(b)' tells where b is a row of the call's own; rows that are filled place by place; what strings are as lists of numbers. No program is spoken of.
  Plain facts on texts as lists of numbers. No program is spoken of.
  Tokens of a text,as plain relations: where a run of bytes ends,which token stands at a place,what is passed over,and that each of these is one alone. No program is spoken of.
  Programs,as plain functions: what a row of tokens means. No program is spoken of.
  Plain facts on decimal digits. No program is spoken of.
  Texts of programs,as plain functions. No program is spoken of.
  An expression that is used once: the texts of all statements' expressions are together no longer than what all expressions zdc. No program is spoken of.
-/
import Derived.WalkKit
import Derived.PlainAid
import Derived.Laws.BytesArg
import Derived.Lib.Strings
namespace Go.Proofs.YtjdddblpfbmpaaaGreat
open Go.RowKit Go.PlainAid
def inB (a b c:Int):Bool:=decide (b≤a)&&decide (a≤c)
theorem zl {a b:Bool} (h:a=b):Ending.returned (.bool a)= .returned (.bool b):=by rw[h]
theorem zeD {k:IntKind} {a b:Int} (h:a=b):Ending.returned (.int k a)= .returned (.int k b):=by rw[h]
theorem zaD {a b:ByteArray} (h:a=b):Ending.returned (.string a)= .returned (.string b):=by rw[h]
theorem zcP {a b:Int} {c d:Bool} (h:a=b) (k:c=d):Ending.returned (.tuple #[.int .i64 a,.bool c])= .returned (.tuple #[.int .i64 b,.bool d]):=by rw[h,k]
def zg3 (s:ByteArray):Nat→Int
 |0=>0
 |k+1=>zg3 s k*256+bt s k
def zj4 (s:ByteArray) (n:Int):Bool:=inB n 1 7&&decide (n≤s.size)
def rfV (s:ByteArray) (n:Int):Int:=if zj4 s n then zg3 s n.toNat else 0
abbrev sNone:ByteArray:={data:=#[]}
theorem zk (w:World) (o:Obj):(w.alloc o).heap.size=w.heap.size+1:=by show (w.heap.push _).size=_;simp
theorem zc {p:Prop} (h:p):Hid p:=h
def zce (w:World) (base:Nat) (e:TypeId) (v:Value) (n:Nat) (xs:List Int):Prop:=w.ownsRow base e 1 v n (xs.map (Value.int .u8))
theorem zg4 {P:Program} {w:World} {src dst e:TypeId} (J:P.underlying src=some (.slice e)) (I:P.underlying e=some (.int .u8)) (H:P.underlying dst=some .string)
  {j n:Nat} {v:Value} {xs:List Int} (h:zce w j e v n xs):(convert src dst v).run P w= .ok (.string (strOfNums xs)) w:=by
 obtain⟨A,O⟩:=h
 rw[List.length_map,Nat.mul_one] at A
 rcases O with ⟨rfl,rfl⟩|⟨g,q,D,rfl,N,L,U,K,E,M⟩
 ·obtain rfl:=List.length_eq_zero_iff.1 A
  exact run_convert_bytes_nil w src e J I 0 0 dst H
 ·refine run_convert_bytes_arg w src e J I g 0 n q xs A (fun i V=>?_) dst H
  have z:w.ownsRow j e 1 (.slice (some ⟨g,0,none⟩) n q) n (xs.map (Value.int .u8)):=⟨by simpa using A,.inr ⟨g,q,D,rfl,N,L,U,K,E,M⟩⟩
  have:=z.cellAt i (by omega)
  rw[Nat.zero_add,this]
  simp[List.getD,List.getElem?_eq_getElem (show i<xs.length by omega)]
theorem zg5 {P:Program} {src dst e:TypeId} (n:P.underlying src=some (.slice e)) (j:P.underlying e=some (.int .u8)) (h:P.underlying dst=some .string)
  (w:World) (x:Int):(convert src dst (.slice (some ⟨w.heap.size,0,none⟩) 1 1)).run P (w.alloc (.cells #[.int .u8 x] e))= .ok (.string (strOfNums [x])) (w.alloc (.cells #[.int .u8 x] e)):=by
 refine run_convert_bytes_arg _ src e n j w.heap.size 0 1 1 [x] rfl (fun i q=>?_) dst h
 obtain rfl:i=0:=by omega
 rw[World.cell?_alloc_new]
 rfl
theorem zj5 (xs h:List Int):strOfNums xs++strOfNums h=strOfNums (xs++h):=by
 unfold strOfNums
 rw[ByteArray.mk_append_mk,List.map_append]
theorem zeE (x:Int) (h:List Int):strOfNums [x]++strOfNums h=strOfNums (x::h):=zj5 [x] h
def zrc (L:List Int) (k:Nat):List Int:=L.take k++List.replicate (L.length-k) 0
def zcf (L:List Int) (k:Nat):List Int:=List.replicate (L.length-k) 0++L.drop (L.length-k)
theorem zg6 (L:List Int):zcf L 0=List.replicate L.length 0:=by simp[zcf]
theorem zg7 (L:List Int) (k:Nat) (x:Int) (h:k<L.length) (n:L[L.length-1-k]? =some x):(zcf L k).set (L.length-1-k) x=zcf L (k+1):=by
 have w:List.replicate (L.length-k) (0:Int)=List.replicate (L.length-(k+1)) 0++[0]:=by
  rw[show L.length-k=(L.length-(k+1))+1 from by omega,List.replicate_succ']
 have q:L.drop (L.length-(k+1))=x::L.drop (L.length-k):=by
  have e:L.length-(k+1)=L.length-1-k:=by omega
  rw[e]
  have j:L.length-1-k<L.length:=by omega
  rw[List.drop_eq_getElem_cons j]
  rw[List.getElem?_eq_getElem j] at n
  simp only[Option.some.injEq] at n
  rw[n,show L.length-1-k+1=L.length-k from by omega]
 unfold zcf
 rw[w,q,List.append_assoc,List.set_append_right _ _ (by simp;omega),List.length_replicate,show L.length-1-k-(L.length-(k+1))=0 from by omega]
 rfl
theorem zf3 {w:World} {B g n q:Nat} {e:TypeId} {L:List Int} (h:zce w B e (.slice (some ⟨g,0,none⟩) n q) n L) (j:Nat) (x:Int):
  zce (w.setCell ⟨g,j,none⟩ (.int .u8 x)) B e (.slice (some ⟨g,0,none⟩) n q) n (L.set j x):=by
 unfold zce at h ⊢
 rw[List.map_set]
 exact (h.stored j (.int .u8 x)).1
theorem zf4 {w:World} {B g n q:Nat} {e:TypeId} {L:List Int} (h:zce w B e (.slice (some ⟨g,0,none⟩) n q) n L) (j:Nat) (A:j<n): ∃v,w.cell? ⟨g,j,none⟩=some v:=by
 unfold zce at h
 have z:=h.1
 rw[List.length_map,Nat.mul_one] at z
 rw[h.cellAt j (by omega)]
 simp[List.getElem?_eq_getElem (show j<L.length by omega)]
theorem zf5 {w:World} {B g n q:Nat} {e:TypeId} {L:List Int} (h:zce w B e (.slice (some ⟨g,0,none⟩) n q) n L) (j:Nat):w.frozen? ⟨g,j,none⟩=false:=World.ownsRow.frozenAt h j
def dl (n:Int):Nat→List Int
 |0=>[]
 |k+1=>(n/2^(8*k)%256)::dl n k
def zj6 (n m:Int):Bool:=inB m 1 7&&decide (0≤n)&&decide (n/2^(8*m.toNat)=0)
def fxL (n m:Int):List Int:=if zj6 n m then dl n m.toNat else []
def bsl (s:ByteArray):Nat→Nat→List Int
 |_,0=>[]
 |i,m+1=>bt s i::bsl s (i+1) m
theorem zj7 (s:ByteArray) (i m:Nat):(bsl s i m).length=m:=by
 induction m generalizing i with
 |zero=>rfl
 |succ m h=>simp[bsl,h]
theorem zj8 (s:ByteArray) (i:Nat) (h:i<s.data.toList.length):UInt8.ofNat (bt s i).toNat=s.data.toList[i]:=by
 have j:i<s.size:=by simpa using h
 rw[←get_bt s i j,Int.toNat_natCast,UInt8.ofNat_toNat]
 rfl
theorem zj9 (s:ByteArray) (i m:Nat) (h:i+m≤s.size):(bsl s i m).map (fun n=>UInt8.ofNat n.toNat)=(s.data.toList.drop i).take m:=by
 induction m generalizing i with
 |zero=>simp[bsl]
 |succ m q=>
  have j:i<s.data.toList.length:=by rw[Array.length_toList];exact Nat.lt_of_lt_of_le (show i<i+(m+1) by omega) h
  rw[bsl,List.map_cons,q (i+1) (by omega),List.drop_eq_getElem_cons j,List.take_succ_cons,zj8 s i j]
theorem zg8 (s:ByteArray) (k:Nat) (h:k≤s.size):s.extract 0 k=strOfNums (bsl s 0 k):=by
 have e:(s.extract 0 k).data.toList=(strOfNums (bsl s 0 k)).data.toList:=by
  rw[Lib.extract_data,strOfNums_data,zj9 s 0 k (by omega),Nat.sub_zero]
 have j:(s.extract 0 k).data=(strOfNums (bsl s 0 k)).data:=by
  rw[←Array.toArray_toList (xs:=(s.extract 0 k).data),e,Array.toArray_toList]
 have n: ∀a b:ByteArray,a.data=b.data→a=b:=by rintro⟨a⟩ ⟨b⟩ h;cases h;rfl
 exact n _ _ j
theorem zg9 {a b:ByteArray} (h:a.data.toList=b.data.toList):a=b:=by
 obtain⟨⟨a⟩⟩:=a
 obtain⟨⟨b⟩⟩:=b
 simp only at h
 rw[h]
theorem zjA (a b:ByteArray):(a.toList==b.toList)=true↔a=b:=by
 rw[beq_iff_eq,Lib.toList_data,Lib.toList_data]
 exact⟨zg9,fun h=>by rw[h]⟩
theorem zjB (s:ByteArray):s=strOfNums (bsl s 0 s.size):=by
 rw[←zg8 s s.size (Nat.le_refl _)]
 refine zg9 ?_
 rw[Lib.extract_data,List.drop_zero,Nat.sub_zero,List.take_of_length_le]
 rw[Array.length_toList]
 exact Nat.le_refl _
theorem zcQ (s:ByteArray) (k:Nat):bt s k=(s.data.toList.map (fun b=>(b.toNat:Int))).getD k 0:=by
 unfold bt
 by_cases h:k<s.size
 ·rw[dif_pos h]
  have j:k<s.data.toList.length:=by rw[Array.length_toList];exact h
  simp only[List.getD,List.getElem?_map,List.getElem?_eq_getElem j,Option.map_some,Option.getD_some]
  rfl
 ·rw[dif_neg h]
  have j:s.data.toList.length≤k:=by rw[Array.length_toList];exact Nat.le_of_not_lt h
  simp[List.getD,List.getElem?_eq_none j]
def zar (c:Int) (scr:Bool):Bool:=decide (97≤c∧c≤122)||decide (65≤c∧c≤90)||decide (c=95)||(scr&&decide (c=36))
def zD (c:Int):Bool:=decide (48≤c∧c≤57)
def zE (scr:Bool) (c:Int):Bool:=zar c scr||zD c
def zaZ (c:Int):Bool:=decide (c≠10)
abbrev zbY (c:Int):Prop:=c=9∨c=10∨c=13∨c=32
abbrev zaP (c:Int):Prop:=c=123∨c=125∨c=40∨c=41∨c=44∨c=59∨c=61∨c=46∨c=42∨c=43∨c=45
abbrev zbj (c:Int):Prop:=32≤c∧c≤126∧c≠34∧c≠92
theorem zcY {c:Int} {h:Bool}:zar c h=true↔(97≤c∧c≤122)∨(65≤c∧c≤90)∨c=95∨(h=true∧c=36):=by simp[zar,or_assoc]
theorem zcg {c:Int}:zD c=true↔48≤c∧c≤57:=by simp[zD]
def zas (p:Int→Bool) (s:ByteArray) (a e:Nat):Prop:=a≤e∧e≤s.size∧(∀j,a≤j→j<e→p (bt s j)=true)∧(e<s.size→p (bt s e)=false)
theorem zdZ {p:Int→Bool} {s:ByteArray} {a j n:Nat} (E:zas p s a j) (A:zas p s a n):j=n:=by
 obtain⟨z,J,I,H⟩:=E
 obtain⟨D,K,q,w⟩:=A
 rcases Nat.lt_trichotomy j n with h|h|h
 ·have:=q j z h
  rw[H (by omega)] at this
  cases this
 ·exact h
 ·have:=I n D h
  rw[w (by omega)] at this
  cases this
def zbk (s:ByteArray) (a:Nat):Nat→Int
 |0=>0
 |k+1=>zbk s a k*10+(bt s (a+k)-48)
def zaG (s:ByteArray) (a:Nat) (scr:Bool) (n:Int) (e:Nat):Prop:=
 zas zD s a e∧a<e∧(e=a+1∨bt s a≠48)∧n=zbk s a (e-a)∧n≤1000000∧(e<s.size→zar (bt s e) scr=false)
theorem zjC {s:ByteArray} {a:Nat} {h:Bool} {q z:Int} {j A:Nat} (w:zaG s a h q j) (n:zaG s a h z A):q=z∧j=A:=by
 have D:=zdZ w.1 n.1
 subst D
 exact⟨w.2.2.2.1.trans n.2.2.2.1.symm,rfl⟩
theorem zgA {s:ByteArray} {a:Nat} (k m:Nat) (n: ∀j,j<m→48≤bt s (a+j)) (E:k≤m):0≤zbk s a k∧zbk s a k≤zbk s a m:=by
 have D: ∀m,(∀j,j<m→48≤bt s (a+j))→0≤zbk s a m:=by
  intro m
  induction m with
  |zero=>intro _;exact Int.le_refl _
  |succ m q=>
   intro h
   have w:=q (fun j z=>h j (by omega))
   have A:=h m (by omega)
   show 0≤zbk s a m*10+(bt s (a+m)-48)
   omega
 induction m with
 |zero=>
  obtain rfl:k=0:=by omega
  exact⟨Int.le_refl _,Int.le_refl _⟩
 |succ m q=>
  by_cases e:k=m+1
  ·subst e
   exact⟨D _ n,Int.le_refl _⟩
  ·obtain⟨w,A⟩:=q (fun j z=>n j (by omega)) (by omega)
   have H:=n m (by omega)
   refine⟨w,?_⟩
   show _≤zbk s a m*10+(bt s (a+m)-48)
   omega
def zba (s:ByteArray) (a e:Nat):Prop:=a+2≤e∧e≤s.size∧e≤a+42∧bt s (e-1)=34∧∀j,a<j→j+1<e→zbj (bt s j)
theorem zjD {s:ByteArray} {a j n:Nat} (D:zba s a j) (A:zba s a n):j=n:=by
 obtain⟨J,I,M,E,z⟩:=D
 obtain⟨K,L,H,w,q⟩:=A
 rcases Nat.lt_trichotomy j n with h|h|h
 ·exact absurd E (q (j-1) (by omega) (by omega)).2.2.1
 ·exact h
 ·exact absurd w (z (n-1) (by omega) (by omega)).2.2.1
structure Tk where
 kind:Int
 text:ByteArray
 num:Int
 pos:Nat
def Tok (s:ByteArray) (scr:Bool) (a:Nat) (t:Tk) (e:Nat):Prop:=
 (zar (bt s a) scr=true∧zas (zE scr) s a e∧t=⟨1,s.extract a e,0,a⟩)∨(∃n,zD (bt s a)=true∧zaG s a scr n e∧t=⟨2,{data:=#[]},n,a⟩)∨(bt s a=34∧zba s a e∧t=⟨3,s.extract (a+1) (e-1),0,a⟩)∨(zaP (bt s a)∧t=⟨4,s.extract a (a+1),0,a⟩∧e=a+1)
theorem Tok.name {s:ByteArray} {j:Bool} {a e:Nat} (h:zar (bt s a) j=true) (n:zas (zE j) s a e):Tok s j a ⟨1,s.extract a e,0,a⟩ e:=.inl ⟨h,n,rfl⟩
theorem Tok.num {s:ByteArray} {j:Bool} {a e:Nat} {n:Int} (h:zD (bt s a)=true) (q:zaG s a j n e):Tok s j a ⟨2,{data:=#[]},n,a⟩ e:=.inr (.inl ⟨n,h,q,rfl⟩)
theorem Tok.str {s:ByteArray} {j:Bool} {a e:Nat} (h:bt s a=34) (n:zba s a e):Tok s j a ⟨3,s.extract (a+1) (e-1),0,a⟩ e:=.inr (.inr (.inl ⟨h,n,rfl⟩))
theorem Tok.sign {s:ByteArray} {j:Bool} {a:Nat} (h:zaP (bt s a)):Tok s j a ⟨4,s.extract a (a+1),0,a⟩ (a+1):=.inr (.inr (.inr ⟨h,rfl,rfl⟩))
theorem Tok.elim {s:ByteArray} {scr:Bool} {a:Nat} {motive:(t:Tk)→(e:Nat)→Tok s scr a t e→Prop} {t:Tk} {e:Nat} (h:Tok s scr a t e) (name: ∀{e:Nat} (h:zar (bt s a) scr=true) (he:zas (zE scr) s a e),motive _ e (.name h he)) (num: ∀{n:Int} {e:Nat} (h:zD (bt s a)=true) (he:zaG s a scr n e),motive _ e (.num h he)) (str: ∀{e:Nat} (h:bt s a=34) (he:zba s a e),motive _ e (.str h he)) (sign: ∀(h:zaP (bt s a)),motive _ _ (.sign h)):motive t e h:=by
 rcases h with ⟨h1,h2,rfl⟩|⟨n,h1,h2,rfl⟩|⟨h1,h2,rfl⟩|⟨h1,rfl,rfl⟩
 ·exact name h1 h2
 ·exact num h1 h2
 ·exact str h1 h2
 ·exact sign h1
theorem zd1 {c:Int} {j:Bool} (h:zar c j=true):zD c=false∧c≠34∧¬zaP c:=by
 rw[zcY] at h
 refine⟨decide_eq_false (by omega),by omega,by unfold zaP;omega⟩
theorem zd2 {c:Int} (h:zD c=true):c≠34∧¬zaP c:=by
 rw[zcg] at h
 exact⟨by omega,by unfold zaP;omega⟩
theorem zjE {s:ByteArray} {z:Bool} {a:Nat} {E D:Tk} {H I:Nat} (J:Tok s z a E H) (A:Tok s z a D I):E=D∧H=I:=by
 cases J using Tok.elim with
 |name h w=>
  have q:=zd1 h
  cases A using Tok.elim with
  |name j n=>have:=zdZ w n;subst this;exact⟨rfl,rfl⟩
  |num j n=>rw[q.1] at j;cases j
  |str j n=>exact absurd j q.2.1
  |sign j=>exact absurd j q.2.2
 |num h w=>
  have q:=zd2 h
  cases A using Tok.elim with
  |name j n=>rw[(zd1 j).1] at h;cases h
  |num j n=>obtain⟨rfl,rfl⟩:=zjC w n;exact⟨rfl,rfl⟩
  |str j n=>exact absurd j q.1
  |sign j=>exact absurd j q.2
 |str h w=>
  cases A using Tok.elim with
  |name j n=>exact absurd h (zd1 j).2.1
  |num j n=>exact absurd h (zd2 j).1
  |str j n=>have:=zjD w n;subst this;exact⟨rfl,rfl⟩
  |sign j=>rw[h] at j;unfold zaP at j;omega
 |sign h=>
  cases A using Tok.elim with
  |name j n=>exact absurd h (zd1 j).2.2
  |num j n=>exact absurd h (zd2 j).2
  |str j n=>rw[j] at h;unfold zaP at h;omega
  |sign j=>exact⟨rfl,rfl⟩
theorem zd3 {s:ByteArray} {n:Bool} {a:Nat} {t:Tk} {e:Nat} (q:a<s.size) (h:Tok s n a t e):a<e∧e≤s.size∧t.pos=a:=by
 cases h using Tok.elim with
 |name h j=>
  refine⟨?_,j.2.1,rfl⟩
  rcases Nat.lt_or_ge a e with k|k
  ·exact k
  ·have w:e=a:=by have:=j.1;omega
   subst w
   have:=j.2.2.2 q
   simp[zE,h] at this
 |num h j=>exact⟨j.2.1,j.1.2.1,rfl⟩
 |str h j=>exact⟨by have:=j.1;omega,j.2.1,rfl⟩
 |sign h=>exact⟨by omega,by omega,rfl⟩
abbrev zbI (s:ByteArray) (a:Nat):Prop:=bt s a=47∧a+1<s.size∧bt s (a+1)=47
def zjF (s:ByteArray) (P:Nat→Nat→Prop):Prop:=P s.size s.size∧(∀a,a<s.size→¬zbY (bt s a)→¬zbI s a→P a a)∧(∀a b,a<s.size→zbY (bt s a)→P (a+1) b→P a b)∧∀a c b,a<s.size→zbI s a→zas zaZ s a c→P c b→P a b
def Skip (s:ByteArray) (a b:Nat):Prop:=∀P,zjF s P→P a b
theorem Skip.done {s:ByteArray}:Skip s s.size s.size:=fun _ k=>k.1
theorem Skip.stop {s:ByteArray} {a:Nat} (h:a<s.size) (j: ¬zbY (bt s a)) (n: ¬zbI s a):Skip s a a:=fun _ k=>k.2.1 a h j n
theorem Skip.blank {s:ByteArray} {a b:Nat} (h:a<s.size) (j:zbY (bt s a)) (r:Skip s (a+1) b):Skip s a b:=fun P k=>k.2.2.1 a b h j (r P k)
theorem Skip.comment {s:ByteArray} {a c b:Nat} (h:a<s.size) (j:zbI s a) (n:zas zaZ s a c) (r:Skip s c b):Skip s a b:=fun P k=>k.2.2.2 a c b h j n (r P k)
theorem Skip.ind {s:ByteArray} {motive:(a b:Nat)→Skip s a b→Prop} {a b:Nat} (h:Skip s a b) (done:motive _ _ .done) (stop: ∀{a:Nat} (h:a<s.size) (h1: ¬zbY (bt s a)) (h2: ¬zbI s a),motive a a (.stop h h1 h2)) (blank: ∀{a b:Nat} (h:a<s.size) (h1:zbY (bt s a)) (r:Skip s (a+1) b),motive _ _ r→motive a b (.blank h h1 r)) (comment: ∀{a c b:Nat} (h:a<s.size) (h1:zbI s a) (hc:zas zaZ s a c) (r:Skip s c b),motive _ _ r→motive a b (.comment h h1 hc r)):motive a b h:=
 (h (fun a b=>∃k,motive a b k) ⟨⟨_,done⟩,fun _ h h1 h2=>⟨_,stop h h1 h2⟩,fun _ _ h h1 ⟨r,k⟩=>⟨_,blank h h1 r k⟩,fun _ _ _ h h1 hc ⟨r,k⟩=>⟨_,comment h h1 hc r k⟩⟩).2
theorem Skip.elim {s:ByteArray} {motive:(a b:Nat)→Skip s a b→Prop} {a b:Nat} (h:Skip s a b) (done:motive _ _ .done) (stop: ∀{a:Nat} (h:a<s.size) (h1: ¬zbY (bt s a)) (h2: ¬zbI s a),motive a a (.stop h h1 h2)) (blank: ∀{a b:Nat} (h:a<s.size) (h1:zbY (bt s a)) (r:Skip s (a+1) b),motive a b (.blank h h1 r)) (comment: ∀{a c b:Nat} (h:a<s.size) (h1:zbI s a) (hc:zas zaZ s a c) (r:Skip s c b),motive a b (.comment h h1 hc r)):motive a b h:=
 h.ind done stop (fun h h1 r _=>blank h h1 r) (fun h h1 hc r _=>comment h h1 hc r)
theorem zgB {s:ByteArray} {a:Nat} (h:zbI s a): ¬zbY (bt s a):=by rw[h.1];unfold zbY;omega
theorem zgC {s:ByteArray} {a A b2:Nat} (D:Skip s a A):Skip s a b2→A=b2:=by
 induction D using Skip.ind with
 |done=>
  intro j
  generalize H:s.size=x at j
  cases j using Skip.elim with
  |done=>rfl
  |stop h _ _=>omega
  |blank h _ _=>omega
  |comment h _ _ _=>omega
 |stop h n q=>
  intro j
  cases j using Skip.elim with
  |done=>rfl
  |stop _ _ _=>rfl
  |blank _ k _=>exact absurd k n
  |comment _ k _ _=>exact absurd k q
 |blank h k _ w=>
  intro j
  cases j using Skip.elim with
  |done=>exact absurd h (Nat.lt_irrefl _)
  |stop _ n _=>exact absurd k n
  |blank _ _ r=>exact w r
  |comment _ n _ _=>exact absurd k (zgB n)
 |comment h k E _ w=>
  intro j
  cases j using Skip.elim with
  |done=>exact absurd h (Nat.lt_irrefl _)
  |stop _ _ q=>exact absurd k q
  |blank _ n _=>exact absurd n (zgB k)
  |comment _ _ z r=>have:=zdZ E z;subst this;exact w r
theorem zf6 {s:ByteArray} {a b:Nat} (h:Skip s a b):a≤b∧b≤s.size:=by
 induction h using Skip.ind with
 |done=>exact⟨Nat.le_refl _,Nat.le_refl _⟩
 |stop h _ _=>exact⟨Nat.le_refl _,by omega⟩
 |blank h _ _ j=>exact⟨by omega,j.2⟩
 |comment h _ n _ j=>exact⟨by have:=n.1;omega,j.2⟩
def LxK (s:ByteArray) (scr:Bool) (P:Nat→Nat→Except Nat (List Tk)→Prop):Prop:=(∀n,P s.size n (.ok []))∧(∀a n,a<s.size→(4000≤n∨∀t e,¬Tok s scr a t e)→P a n (.error a))∧∀a n e b t r,a<s.size→n<4000→Tok s scr a t e→Skip s e b→P b (n+1) r→P a n (r.map (t:: ·))
def Lx (s:ByteArray) (scr:Bool) (a n:Nat) (r:Except Nat (List Tk)):Prop:=∀P,LxK s scr P→P a n r
theorem Lx.done {s:ByteArray} {h:Bool} {n:Nat}:Lx s h s.size n (.ok []):=fun _ k=>k.1 n
theorem Lx.bad {s:ByteArray} {j:Bool} {a n:Nat} (h:a<s.size) (q:4000≤n∨∀t e,¬Tok s j a t e):Lx s j a n (.error a):=fun _ k=>k.2.1 a n h q
theorem Lx.tok {s:ByteArray} {j:Bool} {a n e b:Nat} {t:Tk} {r:Except Nat (List Tk)} (h:a<s.size) (A:n<4000) (w:Tok s j a t e) (z:Skip s e b) (q:Lx s j b (n+1) r):Lx s j a n (r.map (t:: ·)):=fun P k=>k.2.2 a n e b t r h A w z (q P k)
theorem Lx.ind {s:ByteArray} {scr:Bool} {motive:(a n:Nat)→(r:Except Nat (List Tk))→Lx s scr a n r→Prop} {a n:Nat} {r:Except Nat (List Tk)} (h:Lx s scr a n r) (done: ∀{n:Nat},motive _ n _ .done) (bad: ∀{a n:Nat} (h:a<s.size) (h1:4000≤n∨∀t e,¬Tok s scr a t e),motive a n _ (.bad h h1)) (tok: ∀{a n e b:Nat} {t:Tk} {r:Except Nat (List Tk)} (h:a<s.size) (hn:n<4000) (ht:Tok s scr a t e) (hs:Skip s e b) (hr:Lx s scr b (n+1) r),motive _ _ _ hr→motive a n _ (.tok h hn ht hs hr)):motive a n r h:=
 (h (fun a n r=>∃k,motive a n r k) ⟨fun _=>⟨_,done⟩,fun _ _ h h1=>⟨_,bad h h1⟩,fun _ _ _ _ _ _ h hn ht hs ⟨hr,k⟩=>⟨_,tok h hn ht hs hr k⟩⟩).2
theorem Lx.elim {s:ByteArray} {scr:Bool} {motive:(a n:Nat)→(r:Except Nat (List Tk))→Lx s scr a n r→Prop} {a n:Nat} {r:Except Nat (List Tk)} (h:Lx s scr a n r) (done: ∀{n:Nat},motive _ n _ .done) (bad: ∀{a n:Nat} (h:a<s.size) (h1:4000≤n∨∀t e,¬Tok s scr a t e),motive a n _ (.bad h h1)) (tok: ∀{a n e b:Nat} {t:Tk} {r:Except Nat (List Tk)} (h:a<s.size) (hn:n<4000) (ht:Tok s scr a t e) (hs:Skip s e b) (hr:Lx s scr b (n+1) r),motive a n _ (.tok h hn ht hs hr)):motive a n r h:=
 h.ind done bad (fun h hn ht hs hr _=>tok h hn ht hs hr)
theorem zjG {s:ByteArray} {q:Bool} {a n:Nat} {E A:Except Nat (List Tk)} (I:Lx s q a n E):Lx s q a n A→E=A:=by
 induction I using Lx.ind generalizing A with
 |done=>
  intro j
  generalize L:s.size=x at j
  cases j using Lx.elim with
  |done=>rfl
  |bad h _=>omega
  |tok h _ _ _ _=>omega
 |bad h k=>
  intro j
  cases j using Lx.elim with
  |done=>exact absurd h (Nat.lt_irrefl _)
  |bad _ _=>rfl
  |tok _ K w _ _=>exact k.elim (fun k=>by omega) fun k=>absurd w (k _ _)
 |tok h K w J _ H=>
  intro j
  cases j using Lx.elim with
  |done=>exact absurd h (Nat.lt_irrefl _)
  |bad _ k=>exact k.elim (fun k=>by omega) fun k=>absurd w (k _ _)
  |tok _ _ z D r=>
   obtain⟨rfl,rfl⟩:=zjE w z
   have:=zgC J D
   subst this
   rw[H r]
def zaa (s:ByteArray) (scr:Bool) (r:Except Nat (List Tk)):Prop:=∃a,Skip s 0 a∧Lx s scr a 0 r
theorem zjH {s:ByteArray} {h:Bool} {n j:Except Nat (List Tk)} (D:zaa s h n) (w:zaa s h j):n=j:=by
 obtain⟨a,E,z⟩:=D
 obtain⟨b,q,A⟩:=w
 have:=zgC E q
 subst this
 exact zjG z A
structure Ex where
 kind:Int
 num:Int
 name:ByteArray
 field:ByteArray
 l:Int
 r:Int
structure Sm where
 kind:Int
 name:ByteArray
 expr:Int
structure Im where
 spec:ByteArray
 first:ByteArray
 loc:ByteArray
structure Ep where
 kind:Int
 name:ByteArray
 loc:ByteArray
 spec:ByteArray
structure Cx where
 ts:List Tk
 fin:Nat
 scr:Bool
structure PS where
 pos:Nat
 rq:List ByteArray
 im:List Im
 ep:List Ep
 st:List Sm
 ex:List Ex
 la:List Ep
abbrev PR:=Except Nat PS
abbrev zad:ByteArray:={data:=#[105,109,112,111,114,116]}
abbrev zab:ByteArray:={data:=#[101,120,112,111,114,116]}
abbrev sDefault:ByteArray:={data:=#[100,101,102,97,117,108,116]}
abbrev zA:ByteArray:={data:=#[108,101,116]}
abbrev zN:ByteArray:={data:=#[102,117,110,99,116,105,111,110]}
abbrev zd4:ByteArray:={data:=#[114,101,116,117,114,110]}
abbrev zao:ByteArray:={data:=#[112,114,105,110,116]}
abbrev zaz:ByteArray:={data:=#[116,104,114,111,119]}
abbrev zbv:ByteArray:={data:=#[102,97,105,108]}
abbrev za3:ByteArray:={data:=#[117,110,100,101,102]}
abbrev sAs:ByteArray:={data:=#[97,115]}
abbrev zO:ByteArray:={data:=#[102,114,111,109]}
abbrev zbC:ByteArray:={data:=#[42,100,101,102,97,117,108,116]}
abbrev zm:ByteArray:={data:=#[40]}
abbrev zaw:ByteArray:={data:=#[41]}
abbrev zv:ByteArray:={data:=#[42]}
abbrev zbJ:ByteArray:={data:=#[43]}
abbrev zbl:ByteArray:={data:=#[44]}
abbrev zaQ:ByteArray:={data:=#[45]}
abbrev cPoint:ByteArray:={data:=#[46]}
abbrev cSemi:ByteArray:={data:=#[59]}
abbrev cEq:ByteArray:={data:=#[61]}
abbrev zF:ByteArray:={data:=#[123]}
abbrev zbb:ByteArray:={data:=#[125]}
def bd {α β:Type} (x:Except Nat α) (f:α→Except Nat β):Except Nat β:=
 match x with
 | .ok a=>f a
 | .error e=>.error e
theorem zx {α β:Type} (a:α) (f:α→Except Nat β):bd (.ok a) f=f a:=rfl
theorem zd5 {α β:Type} (e:Nat) (f:α→Except Nat β):bd (.error e) f= .error e:=rfl
theorem zJ {α β γ:Type} (x:Except Nat α) (f:α→Except Nat β) (g:β→Except Nat γ):bd (bd x f) g=bd x fun a=>bd (f a) g:=by cases x<;>rfl
theorem zX {α β:Type} {x:Except Nat α} {f g:α→Except Nat β} (h: ∀a,x= .ok a→f a=g a):bd x f=bd x g:=by
 cases x with
 |ok a=>exact h a rfl
 |error e=>rfl
theorem zj {α β:Type} {x:Except Nat α} {f:α→Except Nat β} {b:β} (h:bd x f= .ok b): ∃a,x= .ok a∧f a= .ok b:=by
 cases x with
 |ok a=>exact⟨a,rfl,h⟩
 |error e=>cases h
def ze (C:Cx) (i:Nat):Tk:=C.ts.getD i ⟨0,sNone,0,C.fin⟩
def zp (C:Cx) (i:Nat):Nat:=(ze C i).pos
def isT (C:Cx) (i:Nat) (k:Int) (x:ByteArray):Bool:=((ze C i).kind==k)&&((ze C i).text.toList==x.toList)
def adv (q:PS):PS:={q with pos:=q.pos+1}
def zd (C:Cx) (k:Int) (x:ByteArray) (q:PS):PR:=if isT C q.pos k x then .ok (adv q) else .error (zp C q.pos)
def zs (x:ByteArray) (scr:Bool):Bool:=
 x.toList==[105,109,112,111,114,116]||x.toList==[101,120,112,111,114,116]||x.toList==[100,101,102,97,117,108,116]||x.toList==[108,101,116]||x.toList==[102,117,110,99,116,105,111,110]||x.toList==[114,101,116,117,114,110]||x.toList==[112,114,105,110,116]||x.toList==[116,104,114,111,119]
  ||((x.toList==[102,97,105,108]||x.toList==[117,110,100,101,102])&&scr)
def zB (C:Cx) (i:Nat) (o:Bool):Bool:=((ze C i).kind==1)&&(!zs (ze C i).text C.scr||(o&&((ze C i).text.toList==[100,101,102,97,117,108,116])))
def zh (C:Cx) (o:Bool) (q:PS):Except Nat (PS×ByteArray):=if zB C q.pos o then .ok (adv q,(ze C q.pos).text) else .error (zp C q.pos)
def zaL (l:List ByteArray) (x:ByteArray):Bool:=l.any fun y=>y.toList==x.toList
def zG (C:Cx) (q:PS):Except Nat (PS×ByteArray):=
 if (ze C q.pos).kind==3 then
  if zaL q.rq (ze C q.pos).text then .ok (adv q,(ze C q.pos).text)
  else if 40≤q.rq.length then .error (zp C q.pos)
  else .ok ({adv q with rq:=q.rq++[(ze C q.pos).text]},(ze C q.pos).text)
 else .error (zp C q.pos)
def zan (C:Cx) (x:Im) (q:PS):PR:=if 40≤q.im.length then .error (zp C (q.pos-1)) else .ok {q with im:=q.im++[x]}
def zn (C:Cx) (x:Ep) (q:PS):PR:=
 if 40≤q.ep.length+q.la.length then .error (zp C (q.pos-1))
 else if x.loc.toList==[42,100,101,102,97,117,108,116] then .ok {q with la:=q.la++[x]} else .ok {q with ep:=q.ep++[x]}
def zV (C:Cx) (k:Int) (n:ByteArray) (q:PS):PR:=if 80≤q.st.length then .error (zp C (q.pos-1)) else .ok {q with st:=q.st++[⟨k,n,(q.ex.length:Int)-1⟩]}
def zL (C:Cx) (x:Ex) (q:PS):PR:=if 300≤q.ex.length then .error (zp C (q.pos-1)) else .ok {q with ex:=q.ex++[x]}
def zbm (C:Cx) (n:ByteArray) (q:PS):PR:=
 if isT C q.pos 4 zm then bd (bd (zd C 4 zm q) (zd C 4 zaw)) (zL C ⟨3,0,n,sNone,0,0⟩) else zL C ⟨2,0,n,sNone,0,0⟩ q
def zbw (C:Cx) (n f:ByteArray) (q:PS):PR:=
 if isT C q.pos 4 zm then bd (bd (zd C 4 zm q) (zd C 4 zaw)) (zL C ⟨5,0,n,f,0,0⟩) else zL C ⟨4,0,n,f,0,0⟩ q
abbrev NT:Type:=Option (Option (Option (Option Unit)))
abbrev NT.sum:NT:=none
abbrev NT.sumT:NT:=some none
abbrev NT.prod:NT:=some (some none)
abbrev NT.prodT:NT:=some (some (some none))
abbrev NT.part:NT:=some (some (some (some ())))
theorem NT.elim {motive:NT→Prop} (nt:NT) (sum:motive .sum) (sumT:motive .sumT) (prod:motive .prod) (prodT:motive .prodT) (part:motive .part):motive nt:=
 match nt with
 |none=>sum
 |some none=>sumT
 |some (some none)=>prod
 |some (some (some none))=>prodT
 |some (some (some (some ())))=>part
def zcF (C:Cx) (i:Nat):Int:=if isT C i 4 zaQ then 7 else 6
def ev (C:Cx):Nat→NT→Nat→PS→PR
 |0,_,_,_=>.error 0
 |f+1,none,d,q=>bd (ev C f .prod d q) (ev C f .sumT d)
 |f+1,some none,d,q=>
  if isT C q.pos 4 zbJ||isT C q.pos 4 zaQ then
   bd (bd (ev C f .prod d (adv q)) fun q'=>zL C ⟨zcF C q.pos,0,sNone,sNone,(q.ex.length:Int)-1,(q'.ex.length:Int)-1⟩ q') (ev C f .sumT d)
  else .ok q
 |f+1,some (some none),d,q=>bd (ev C f .part d q) (ev C f .prodT d)
 |f+1,some (some (some none)),d,q=>
  if isT C q.pos 4 zv then
   bd (bd (ev C f .part d (adv q)) fun q'=>zL C ⟨8,0,sNone,sNone,(q.ex.length:Int)-1,(q'.ex.length:Int)-1⟩ q') (ev C f .prodT d)
  else .ok q
 |f+1,some (some (some (some ()))),d,q=>
  if (ze C q.pos).kind==2 then zL C ⟨1,(ze C q.pos).num,sNone,sNone,0,0⟩ (adv q)
  else if isT C q.pos 4 zm then
   if 20≤d then .error (zp C q.pos) else bd (ev C f .sum (d+1) (adv q)) (zd C 4 zaw)
  else if C.scr&&isT C q.pos 1 za3 then zbm C za3 (adv q)
  else bd (zh C false q) fun x=>if isT C x.1.pos 4 cPoint then bd (zh C true (adv x.1)) fun y=>zbw C x.2 y.2 y.1 else zbm C x.2 x.1
def nd (C:Cx) (nt:NT) (q:PS):Nat:=
 5*(C.ts.length-q.pos)+match nt with
  | .sum=>3
  | .prod=>2
  |_=>1
def pE (C:Cx) (nt:NT) (d:Nat) (q:PS):PR:=ev C (nd C nt q) nt d q
theorem zcZ {C:Cx} {i:Nat} (h:C.ts.length≤i):ze C i=⟨0,sNone,0,C.fin⟩:=by simp[ze,List.getD,List.getElem?_eq_none h]
theorem zax {C:Cx} {i:Nat} {k:Int} {x:ByteArray} (h:isT C i k x=true) (j:k≠0):i<C.ts.length:=by
 rcases Nat.lt_or_ge i C.ts.length with g|g
 ·exact g
 ·simp only[isT,zcZ g,Bool.and_eq_true,beq_iff_eq] at h
  exact absurd h.1.symm j
theorem zeF {C:Cx} {i:Nat} {k:Int} (h:((ze C i).kind==k)=true) (j:k≠0):i<C.ts.length:=by
 rcases Nat.lt_or_ge i C.ts.length with g|g
 ·exact g
 ·simp only[zcZ g,beq_iff_eq] at h
  exact absurd h.symm j
theorem zea {C:Cx} {i:Nat} {o:Bool} (h:zB C i o=true):i<C.ts.length:=by
 simp only[zB,Bool.and_eq_true] at h
 exact zeF h.1 (by decide)
theorem zbx {C:Cx} {k:Int} {x:ByteArray} {q q':PS} (h:zd C k x q= .ok q'):q'=adv q∧isT C q.pos k x=true:=by
 unfold zd at h
 split at h
 ·next g=>exact⟨by cases h;rfl,g⟩
 ·cases h
theorem zbc {C:Cx} {o:Bool} {q:PS} {y:PS×ByteArray} (h:zh C o q= .ok y):y=(adv q,(ze C q.pos).text)∧zB C q.pos o=true:=by
 unfold zh at h
 split at h
 ·next g=>exact⟨by cases h;rfl,g⟩
 ·cases h
theorem zby {C:Cx} {x:Ex} {q q':PS} (h:zL C x q= .ok q'):q'={q with ex:=q.ex++[x]}∧q.ex.length<300:=by
 unfold zL at h
 split at h
 ·cases h
 ·cases h
  exact⟨rfl,by omega⟩
theorem zw (q:PS):(adv q).pos=q.pos+1:=rfl
theorem zgD {C:Cx} {n:ByteArray} {q q':PS} (h:zbm C n q= .ok q'):q.pos≤q'.pos:=by
 unfold zbm at h
 split at h
 ·obtain⟨a,j,w⟩:=zj h
  obtain⟨b,A,z⟩:=zj j
  obtain⟨rfl,_⟩:=zbx A
  obtain⟨rfl,_⟩:=zbx z
  obtain⟨rfl,_⟩:=zby w
  show q.pos≤q.pos+1+1
  omega
 ·obtain⟨rfl,_⟩:=zby h
  exact Nat.le_refl _
theorem zjI {C:Cx} {n f:ByteArray} {q q':PS} (h:zbw C n f q= .ok q'):q.pos≤q'.pos:=by
 unfold zbw at h
 split at h
 ·obtain⟨a,j,w⟩:=zj h
  obtain⟨b,A,z⟩:=zj j
  obtain⟨rfl,_⟩:=zbx A
  obtain⟨rfl,_⟩:=zbx z
  obtain⟨rfl,_⟩:=zby w
  show q.pos≤q.pos+1+1
  omega
 ·obtain⟨rfl,_⟩:=zby h
  exact Nat.le_refl _
theorem zeb {C:Cx} (f:Nat): ∀(E:NT) (d:Nat) (q q':PS),ev C f E d q= .ok q'→q.pos≤q'.pos:=by
 induction f with
 |zero=>intro E d q q' h;cases E using NT.elim<;>cases h
 |succ f w=>
  intro E d q q' h
  cases E using NT.elim with
  |sum=>
   rw[ev] at h
   obtain⟨a,n,j⟩:=zj h
   exact Nat.le_trans (w _ _ _ _ n) (w _ _ _ _ j)
  |prod=>
   rw[ev] at h
   obtain⟨a,n,j⟩:=zj h
   exact Nat.le_trans (w _ _ _ _ n) (w _ _ _ _ j)
  |sumT=>
   rw[ev] at h
   split at h
   ·obtain⟨a,n,j⟩:=zj h
    obtain⟨b,H,D⟩:=zj n
    obtain⟨rfl,_⟩:=zby D
    have A:=w _ _ _ _ H
    have I:=w _ _ _ _ j
    rw[zw] at A
    exact Nat.le_trans (by omega:q.pos≤b.pos) I
   ·cases h
    exact Nat.le_refl _
  |prodT=>
   rw[ev] at h
   split at h
   ·obtain⟨a,n,j⟩:=zj h
    obtain⟨b,H,D⟩:=zj n
    obtain⟨rfl,_⟩:=zby D
    have A:=w _ _ _ _ H
    have I:=w _ _ _ _ j
    rw[zw] at A
    exact Nat.le_trans (by omega:q.pos≤b.pos) I
   ·cases h
    exact Nat.le_refl _
  |part=>
   rw[ev] at h
   split at h
   ·obtain⟨rfl,_⟩:=zby h
    show q.pos≤q.pos+1
    omega
   ·split at h
    ·split at h
     ·cases h
     ·obtain⟨a,n,j⟩:=zj h
      obtain⟨rfl,_⟩:=zbx j
      have A:=w _ _ _ _ n
      rw[zw] at A ⊢
      omega
    ·split at h
     ·have:=zgD h
      rw[zw] at this
      omega
     ·obtain⟨y,n,j⟩:=zj h
      obtain⟨rfl,_⟩:=zbc n
      simp only at j
      split at j
      ·obtain⟨z,H,D⟩:=zj j
       obtain⟨rfl,_⟩:=zbc H
       have:=zjI D
       simp only[zw] at this
       omega
      ·have:=zgD j
       rw[zw] at this
       omega
theorem zjJ {C:Cx} (f:Nat): ∀(g:Nat) (n:NT) (d:Nat) (q:PS),nd C n q≤f→nd C n q≤g→ev C f n d q=ev C g n d q:=by
 induction f with
 |zero=>intro g n d q h;unfold nd at h;cases n using NT.elim<;>simp at h
 |succ f j=>
  intro g n d q E z
  obtain⟨g,rfl⟩: ∃J,g=J+1:=by
   match g with
   |0=>unfold nd at z;cases n using NT.elim<;>simp at z
   |g+1=>exact⟨g,rfl⟩
  cases n using NT.elim with
  |sum=>
   simp only[nd] at E z
   rw[ev,ev,j g .prod d q (by simp only[nd];omega) (by simp only[nd];omega)]
   refine zX fun a w=>?_
   have:=zeb _ _ _ _ _ w
   exact j g .sumT d a (by simp only[nd];omega) (by simp only[nd];omega)
  |prod=>
   simp only[nd] at E z
   rw[ev,ev,j g .part d q (by simp only[nd];omega) (by simp only[nd];omega)]
   refine zX fun a w=>?_
   have:=zeb _ _ _ _ _ w
   exact j g .prodT d a (by simp only[nd];omega) (by simp only[nd];omega)
  |sumT=>
   simp only[nd] at E z
   rw[ev,ev]
   split
   ·next A=>
    have D:q.pos<C.ts.length:=by
     rw[Bool.or_eq_true] at A
     exact A.elim (fun k=>zax k (by decide)) fun k=>zax k (by decide)
    rw[j g .prod d (adv q) (by simp only[nd,zw];omega) (by simp only[nd,zw];omega)]
    refine zX fun a w=>?_
    obtain⟨b,I,H⟩:=zj w
    obtain⟨rfl,_⟩:=zby H
    have:=zeb _ _ _ _ _ I
    rw[zw] at this
    exact j g .sumT d _ (by simp only[nd];omega) (by simp only[nd];omega)
   ·rfl
  |prodT=>
   simp only[nd] at E z
   rw[ev,ev]
   split
   ·next A=>
    have D:q.pos<C.ts.length:=zax A (by decide)
    rw[j g .part d (adv q) (by simp only[nd,zw];omega) (by simp only[nd,zw];omega)]
    refine zX fun a w=>?_
    obtain⟨b,I,H⟩:=zj w
    obtain⟨rfl,_⟩:=zby H
    have:=zeb _ _ _ _ _ I
    rw[zw] at this
    exact j g .prodT d _ (by simp only[nd];omega) (by simp only[nd];omega)
   ·rfl
  |part=>
   simp only[nd] at E z
   rw[ev,ev]
   split
   ·rfl
   ·split
    ·next A=>
     have D:q.pos<C.ts.length:=zax A (by decide)
     split
     ·rfl
     ·rw[j g .sum (d+1) (adv q) (by simp only[nd,zw];omega) (by simp only[nd,zw];omega)]
    ·rfl
theorem zcv {C:Cx} {f d:Nat} {j:NT} {q:PS} (h:nd C j q≤f):ev C f j d q=pE C j d q:=zjJ f _ j d q h (Nat.le_refl _)
theorem zaM {C:Cx} {j:NT} {d:Nat} {q q':PS} (h:pE C j d q= .ok q'):q.pos≤q'.pos:=zeb _ _ _ _ _ h
theorem zec {C:Cx} {h:NT} {d:Nat} {q:PS}:pE C h d q=ev C (nd C h q+1) h d q:=(zcv (Nat.le_succ _)).symm
theorem zgE (C:Cx) (d:Nat) (q:PS):pE C .sum d q=bd (pE C .prod d q) (pE C .sumT d):=by
 rw[zec,ev,zcv (by simp only[nd];omega)]
 refine zX fun a h=>?_
 have:=zaM h
 exact zcv (by simp only[nd];omega)
theorem zgF (C:Cx) (d:Nat) (q:PS):pE C .prod d q=bd (pE C .part d q) (pE C .prodT d):=by
 rw[zec,ev,zcv (by simp only[nd];omega)]
 refine zX fun a h=>?_
 have:=zaM h
 exact zcv (by simp only[nd];omega)
theorem zed (C:Cx) (d:Nat) (q:PS):pE C .sumT d q=
  if isT C q.pos 4 zbJ||isT C q.pos 4 zaQ then
   bd (bd (pE C .prod d (adv q)) fun q'=>zL C ⟨zcF C q.pos,0,sNone,sNone,(q.ex.length:Int)-1,(q'.ex.length:Int)-1⟩ q') (pE C .sumT d)
  else .ok q:=by
 rw[zec,ev]
 split
 ·next h=>
  have j:q.pos<C.ts.length:=by
   rw[Bool.or_eq_true] at h
   exact h.elim (fun k=>zax k (by decide)) fun k=>zax k (by decide)
  rw[zcv (by simp only[nd,zw];omega)]
  refine zX fun a n=>?_
  obtain⟨b,z,w⟩:=zj n
  obtain⟨rfl,_⟩:=zby w
  have:=zaM z
  rw[zw] at this
  exact zcv (by simp only[nd];omega)
 ·rfl
theorem zeG (C:Cx) (d:Nat) (q:PS):pE C .prodT d q=
  if isT C q.pos 4 zv then
   bd (bd (pE C .part d (adv q)) fun q'=>zL C ⟨8,0,sNone,sNone,(q.ex.length:Int)-1,(q'.ex.length:Int)-1⟩ q') (pE C .prodT d)
  else .ok q:=by
 rw[zec,ev]
 split
 ·next z=>
  have h:q.pos<C.ts.length:=zax z (by decide)
  rw[zcv (by simp only[nd,zw];omega)]
  refine zX fun a j=>?_
  obtain⟨b,w,n⟩:=zj j
  obtain⟨rfl,_⟩:=zby n
  have:=zaM w
  rw[zw] at this
  exact zcv (by simp only[nd];omega)
 ·rfl
theorem zbs (C:Cx) (d:Nat) (q:PS):pE C .part d q=
  if (ze C q.pos).kind==2 then zL C ⟨1,(ze C q.pos).num,sNone,sNone,0,0⟩ (adv q)
  else if isT C q.pos 4 zm then
   if 20≤d then .error (zp C q.pos) else bd (pE C .sum (d+1) (adv q)) (zd C 4 zaw)
  else if C.scr&&isT C q.pos 1 za3 then zbm C za3 (adv q)
  else bd (zh C false q) fun x=>if isT C x.1.pos 4 cPoint then bd (zh C true (adv x.1)) fun y=>zbw C x.2 y.2 y.1 else zbm C x.2 x.1:=by
 rw[zec,ev]
 split
 ·rfl
 ·split
  ·next h=>
   have j:q.pos<C.ts.length:=zax h (by decide)
   split
   ·rfl
   ·rw[zcv (by simp only[nd,zw];omega)]
  ·rfl
theorem zee (k:Nat):(0:Int)<10^k:=Int.pow_pos (by omega)
theorem zda (k:Nat):(10:Int)^(k+1)=10^k*10:=Int.pow_succ _ _
theorem zef {a b:Nat} (h:a≤b):(10:Int)^a≤10^b:=by
 induction b with
 |zero=>
  obtain rfl:a=0:=by omega
  exact Int.le_refl _
 |succ b j=>
  by_cases e:a=b+1
  ·rw[e];exact Int.le_refl _
  ·have:=j (by omega)
   have:=zee b
   rw[zda]
   omega
theorem zd6 (n:Int) (k:Nat):n/10^k/10=n/10^(k+1):=by
 rw[zda,Int.ediv_ediv_of_nonneg (Int.le_of_lt (zee k))]
theorem zd7 (n:Int) (k:Nat) (h:0≤n):0≤n/10^k∧n/10^k≤n:=
 ⟨Int.ediv_nonneg h (Int.le_of_lt (zee k)),Int.ediv_le_self _ h⟩
def dc:Nat→Int→Nat
 |0,_=>1
 |f+1,q=>if q<10 then 1 else dc f (q/10)+1
theorem zjK (f:Nat) (q:Int) (w:0≤q) (h:q<10^(f+1)):1≤dc f q∧dc f q≤f+1∧q<10^dc f q∧(dc f q=1∨10^(dc f q-1)≤q):=by
 induction f generalizing q with
 |zero=>simpa [dc] using h
 |succ f n=>
  unfold dc
  by_cases j:q<10
  ·rw[if_pos j]
   exact⟨by omega,by omega,by simpa using j,.inl rfl⟩
  ·rw[if_neg j]
   obtain⟨a,b,c,d⟩:=n (q/10) (by omega) (by rw[zda] at h;omega)
   refine⟨by omega,by omega,?_,.inr ?_⟩
   ·rw[zda];omega
   ·rw[Nat.add_sub_cancel]
    rcases d with d|d
    ·rw[d]
     show (10:Int)^1≤q
     rw[show (10:Int)^1=10 from by decide]
     omega
    ·rw[show dc f (q/10)=(dc f (q/10)-1)+1 from by omega,zda]
     omega
def dcn (m:Int):Nat:=dc 19 m
theorem zcG (m:Int) (j:0≤m) (h:m≤18446744073709551615):1≤dcn m∧dcn m≤20∧m<10^dcn m∧(dcn m=1∨10^(dcn m-1)≤m):=
 zjK 19 m j (by rw[show (10:Int)^(19+1)=100000000000000000000 by decide];omega)
theorem zjL (m:Int) (n:0≤m) (h:m≤18446744073709551615) (k:Nat):10≤m/10^k↔k+1<dcn m:=by
 obtain⟨a,b,c,d⟩:=zcG m n h
 rw[Int.le_ediv_iff_mul_le (zee k),Int.mul_comm,←zda]
 constructor
 ·intro j
  rcases Nat.lt_or_ge (k+1) (dcn m) with e|e
  ·exact e
  ·have:=zef e
   omega
 ·intro j
  have:=zef (show k+1≤dcn m-1 by omega)
  omega
theorem zgG (m:Int) (n:1≤m) (h:m≤18446744073709551615) (k:Nat):m/10^k≠0↔k<dcn m:=by
 obtain⟨a,b,c,d⟩:=zcG m (by omega) h
 have q:=zd7 m k (by omega)
 have:m/10^k≠0↔1≤m/10^k:=by omega
 rw[this,Int.le_ediv_iff_mul_le (zee k),Int.one_mul]
 constructor
 ·intro j
  rcases Nat.lt_or_ge k (dcn m) with e|e
  ·exact e
  ·have:=zef e
   omega
 ·intro j
  have:=zef (show k≤dcn m-1 by omega)
  rcases d with d|d
  ·obtain rfl:k=0:=by omega
   simpa using n
  ·omega
def dgk (m:Int):Nat→List Int
 |0=>[]
 |k+1=>(48+m/10^k%10)::dgk m k
theorem zbZ (m:Int) (k:Nat):(dgk m k).length=k:=by
 induction k with
 |zero=>rfl
 |succ k h=>simp[dgk,h]
theorem zgH (m:Int) (c k:Nat) (h:k<c):(dgk m c)[c-1-k]? =some (48+m/10^k%10):=by
 induction c with
 |zero=>omega
 |succ c j=>
  by_cases e:k=c
  ·subst e
   rw[show k+1-1-k=0 from by omega]
   rfl
  ·rw[show c+1-1-k=(c-1-k)+1 from by omega,dgk,List.getElem?_cons_succ]
   exact j (by omega)
def zeH (n:Int):Int:=if n<0 then-n else n
def zbz (n:Int):List Int:=(if n<0 then [45] else [])++dgk (zeH n) (dcn (zeH n))
theorem zf7 {n:Int} (h:n<0):zbz n=45::dgk (-n) (dcn (-n)):=by simp[zbz,h,zeH]
theorem zf8 {n:Int} (h:0≤n):zbz n=dgk n (dcn n):=by
 have: ¬n<0:=by omega
 simp[zbz,this,zeH]
theorem zjM (L:List Int):zcf L L.length=L:=by simp[zcf]
theorem zjN (x:Int) (L:List Int):(zcf (x::L) L.length).set 0 x=x::L:=by
 simp[zcf]
theorem zjO (p:List Int) (m:Int) (c k:Nat) (h:k<c):(p++dgk m c)[(p++dgk m c).length-1-k]? =some (48+m/10^k%10):=by
 rw[List.length_append,zbZ,List.getElem?_append_right (by omega),show p.length+c-1-k-p.length=c-1-k from by omega]
 exact zgH m c k h
structure Md where
 rq:List ByteArray
 im:List Im
 ep:List Ep
 st:List Sm
 ex:List Ex
def zd8 (q:PS):Md:=⟨q.rq,q.im,q.ep++q.la,q.st,q.ex⟩
def zK (k:Int):Bool:=k==6||k==7
def zR (k:Int):Bool:=k==6||k==7||k==8
def zf:Ex:=⟨0,0,sNone,sNone,0,0⟩
abbrev cParens:ByteArray:={data:=#[40,41]}
abbrev tPlus:ByteArray:={data:=#[32,43,32]}
abbrev tMinus:ByteArray:={data:=#[32,45,32]}
abbrev tStar:ByteArray:={data:=#[32,42,32]}
def zC (b:Bool) (t:ByteArray):ByteArray:=if b then zm++t++zaw else t
def prE (ex:List Ex):Nat→Nat→ByteArray
 |0,_=>sNone
 |f+1,i=>
  let x:=ex.getD i zf
  if x.kind==1 then strOfNums (zbz x.num)
  else if x.kind==2 then x.name
  else if x.kind==3 then x.name++cParens
  else if x.kind==4 then x.name++cPoint++x.field
  else if x.kind==5 then x.name++cPoint++x.field++cParens
  else if x.kind==6 then prE ex f x.l.toNat++tPlus++zC (zK (ex.getD x.r.toNat zf).kind) (prE ex f x.r.toNat)
  else if x.kind==7 then prE ex f x.l.toNat++tMinus++zC (zK (ex.getD x.r.toNat zf).kind) (prE ex f x.r.toNat)
  else if x.kind==8 then zC (zK (ex.getD x.l.toNat zf).kind) (prE ex f x.l.toNat)++tStar++zC (zR (ex.getD x.r.toNat zf).kind) (prE ex f x.r.toNat)
  else sNone
def prX (ex:List Ex) (i:Nat):ByteArray:=prE ex (i+1) i
def zbd (ex:List Ex):Prop:=∀(i:Nat) (x:Ex),ex[i]? =some x→zR x.kind=true→0≤x.l∧x.l<(i:Int)∧0≤x.r∧x.r<(i:Int)
theorem zbn {k:Int} (h:(k==6)=true∨(k==7)=true∨(k==8)=true):zR k=true:=by
 unfold zR
 rcases h with h|h|h<;>simp[h]
theorem zeI {ex:List Ex} (h:zbd ex) {i:Nat} (j:zR (ex.getD i zf).kind=true):0≤(ex.getD i zf).l∧(ex.getD i zf).l<(i:Int)∧0≤(ex.getD i zf).r∧(ex.getD i zf).r<(i:Int):=by
 by_cases n:i<ex.length
 ·have e:ex.getD i zf=ex[i]:=by simp[List.getD,List.getElem?_eq_getElem n]
  rw[e] at j ⊢
  exact h i _ (List.getElem?_eq_getElem n) j
 ·have e:ex.getD i zf=zf:=by simp[List.getD,List.getElem?_eq_none (by omega:ex.length≤i)]
  rw[e] at j
  exact absurd j (by decide)
theorem zgI {ex:List Ex} (h:zbd ex) (f:Nat): ∀(g i:Nat),i<f→i<g→prE ex f i=prE ex g i:=by
 induction f with
 |zero=>intro g i J;omega
 |succ f A=>
  intro g i I H
  obtain⟨g,rfl⟩: ∃E,g=E+1:=⟨g-1,by omega⟩
  rw[prE,prE]
  have D:=fun n=>zeI h (i:=i) n
  generalize ex.getD i zf=x at D ⊢
  have j: ∀n:zR x.kind=true,prE ex f x.l.toNat=prE ex g x.l.toNat∧prE ex f x.r.toNat=prE ex g x.r.toNat:=fun n=>by
   have:=D n
   exact⟨A g _ (by omega) (by omega),A g _ (by omega) (by omega)⟩
  by_cases q:(x.kind==6)=true
  ·rw[(j (zbn (.inl q))).1,(j (zbn (.inl q))).2]
  ·by_cases z:(x.kind==7)=true
   ·rw[(j (zbn (.inr (.inl z)))).1,(j (zbn (.inr (.inl z)))).2]
   ·by_cases w:(x.kind==8)=true
    ·rw[(j (zbn (.inr (.inr w)))).1,(j (zbn (.inr (.inr w)))).2]
    ·simp only[q,z,w,Bool.false_eq_true,↓reduceIte]
theorem zf9 {ex:List Ex} (h:zbd ex) (i:Nat):prX ex i=
  if (ex.getD i zf).kind==1 then strOfNums (zbz (ex.getD i zf).num)
  else if (ex.getD i zf).kind==2 then (ex.getD i zf).name
  else if (ex.getD i zf).kind==3 then (ex.getD i zf).name++cParens
  else if (ex.getD i zf).kind==4 then (ex.getD i zf).name++cPoint++(ex.getD i zf).field
  else if (ex.getD i zf).kind==5 then (ex.getD i zf).name++cPoint++(ex.getD i zf).field++cParens
  else if (ex.getD i zf).kind==6 then prX ex (ex.getD i zf).l.toNat++tPlus++zC (zK (ex.getD (ex.getD i zf).r.toNat zf).kind) (prX ex (ex.getD i zf).r.toNat)
  else if (ex.getD i zf).kind==7 then prX ex (ex.getD i zf).l.toNat++tMinus++zC (zK (ex.getD (ex.getD i zf).r.toNat zf).kind) (prX ex (ex.getD i zf).r.toNat)
  else if (ex.getD i zf).kind==8 then zC (zK (ex.getD (ex.getD i zf).l.toNat zf).kind) (prX ex (ex.getD i zf).l.toNat)++tStar++zC (zR (ex.getD (ex.getD i zf).r.toNat zf).kind) (prX ex (ex.getD i zf).r.toNat)
  else sNone:=by
 rw[prX,prE]
 have A:=fun n=>zeI h (i:=i) n
 generalize ex.getD i zf=x at A ⊢
 have j: ∀n:zR x.kind=true,prE ex i x.l.toNat=prX ex x.l.toNat∧prE ex i x.r.toNat=prX ex x.r.toNat:=fun n=>by
  have:=A n
  exact⟨zgI h _ _ _ (by omega) (by omega),zgI h _ _ _ (by omega) (by omega)⟩
 by_cases q:(x.kind==6)=true
 ·rw[(j (zbn (.inl q))).1,(j (zbn (.inl q))).2]
 ·by_cases z:(x.kind==7)=true
  ·rw[(j (zbn (.inr (.inl z)))).1,(j (zbn (.inr (.inl z)))).2]
  ·by_cases w:(x.kind==8)=true
   ·rw[(j (zbn (.inr (.inr w)))).1,(j (zbn (.inr (.inr w)))).2]
   ·simp only[q,z,w,Bool.false_eq_true,↓reduceIte]
def zai (ex:List Ex) (k:Int):Nat:=(ex.map fun x=>if zR x.kind then (if x.l==k then 1 else 0)+(if x.r==k then 1 else 0) else 0).sum
def za9 (st:List Sm) (k:Int):Nat:=(st.map fun s=>if s.expr==k then 1 else 0).sum
structure Tree (m:Md):Prop where
 ahead:zbd m.ex
 stm: ∀s∈m.st,0≤s.expr∧s.expr<(m.ex.length:Int)
 once: ∀k,k<m.ex.length→zai m.ex (k:Int)+za9 m.st (k:Int)=1
def sm (k:Nat) (f:Nat→Nat):Nat:=((List.range k).map f).sum
theorem zjP (f:Nat→Nat):sm 0 f=0:=rfl
theorem zcR (k:Nat) (f:Nat→Nat):sm (k+1) f=sm k f+f k:=by
 unfold sm
 rw[List.range_succ,List.map_append,List.sum_append]
 simp
theorem zfA (k:Nat) (f g:Nat→Nat):sm k (fun j=>f j+g j)=sm k f+sm k g:=by
 induction k with
 |zero=>rfl
 |succ k h=>rw[zcR,zcR,zcR,h];omega
theorem zdb {k:Nat} {f g:Nat→Nat} (h: ∀j,j<k→f j=g j):sm k f=sm k g:=by
 induction k with
 |zero=>rfl
 |succ k n=>rw[zcR,zcR,n fun j q=>h j (by omega),h k (by omega)]
theorem zfB (k:Nat):sm k (fun _=>0)=0:=by
 induction k with
 |zero=>rfl
 |succ k h=>rw[zcR,h]
theorem zfC (f:Nat→Nat) (k:Nat) (l:Int) (z:0≤l) (h:l<(k:Int)):sm k (fun j=>(if l==(j:Int) then 1 else 0)*f j)=f l.toNat:=by
 induction k with
 |zero=>omega
 |succ k n=>
  rw[zcR]
  by_cases e:l=(k:Int)
  ·have q:sm k (fun j=>(if l==(j:Int) then 1 else 0)*f j)=0:=(zdb (g:=fun _=>0) fun j w=>by rw[if_neg (by rw[beq_iff_eq];omega)];omega).trans (zfB k)
   rw[q,if_pos (by rw[beq_iff_eq];exact e),show l.toNat=k from by omega]
   omega
  ·rw[n (by omega),if_neg (by rw[beq_iff_eq];exact e)]
   omega
def u1 (x:Ex) (k:Int):Nat:=if zR x.kind then (if x.l==k then 1 else 0)+(if x.r==k then 1 else 0) else 0
theorem zgJ {ex:List Ex} {i:Nat} (h:i<ex.length) (k:Int):zai (ex.drop i) k=u1 ex[i] k+zai (ex.drop (i+1)) k:=by
 rw[List.drop_eq_getElem_cons h,zai,List.map_cons,List.sum_cons]
 rfl
theorem zjQ {ex:List Ex} {i:Nat} (h:ex.length≤i) (k:Int):zai (ex.drop i) k=0:=by rw[List.drop_eq_nil_of_le h];rfl
theorem zjR {ex:List Ex} (h:zbd ex) (k:Nat) (z:k<ex.length): ∀d j,j+d=k+1→zai (ex.drop j) (k:Int)=zai (ex.drop (k+1)) (k:Int):=by
 intro d
 induction d with
 |zero=>intro j n;rw[show j=k+1 from by omega]
 |succ d q=>
  intro j n
  rw[zgJ (by omega),q (j+1) (by omega)]
  have:u1 ex[j] (k:Int)=0:=by
   unfold u1
   split
   ·next w=>
    have:=h j _ (List.getElem?_eq_getElem (by omega)) w
    rw[if_neg (by rw[beq_iff_eq];omega),if_neg (by rw[beq_iff_eq];omega)]
   ·rfl
  omega
def wt (ex:List Ex) (i:Nat):Nat:=(prX ex i).size
def zdc (x:Ex):Nat:=x.name.size+x.field.size+40
theorem zeJ (b:Bool) (t:ByteArray):(zC b t).size≤t.size+2:=by
 unfold zC
 split
 ·rw[ByteArray.size_append,ByteArray.size_append]
  show 1+t.size+1≤t.size+2
  omega
 ·omega
theorem zjS (n:Int) (q: -9223372036854775808≤n) (j:n≤9223372036854775807):(strOfNums (zbz n)).size≤21:=by
 rw[strOfNums_size]
 by_cases h:n<0
 ·rw[zf7 h,List.length_cons,zbZ]
  have:=(zcG (-n) (by omega) (by omega)).2.1
  omega
 ·rw[zf8 (by omega),zbZ]
  have:=(zcG n (by omega) (by omega)).2.1
  omega
theorem zjT {ex:List Ex} (h:zbd ex) (i:Nat) (w: -9223372036854775808≤(ex.getD i zf).num∧(ex.getD i zf).num≤9223372036854775807):
  wt ex i≤zdc (ex.getD i zf)+if zR (ex.getD i zf).kind then wt ex (ex.getD i zf).l.toNat+wt ex (ex.getD i zf).r.toNat else 0:=by
 unfold wt
 rw[zf9 h]
 generalize ex.getD i zf=x at w ⊢
 unfold zdc
 by_cases z:(x.kind==1)=true
 ·rw[if_pos z]
  have:=zjS x.num w.1 w.2
  omega
 ·rw[if_neg z]
  by_cases A:(x.kind==2)=true
  ·rw[if_pos A];omega
  ·rw[if_neg A]
   by_cases D:(x.kind==3)=true
   ·rw[if_pos D,ByteArray.size_append]
    have:cParens.size=2:=rfl
    omega
   ·rw[if_neg D]
    by_cases H:(x.kind==4)=true
    ·rw[if_pos H,ByteArray.size_append,ByteArray.size_append]
     have:cPoint.size=1:=rfl
     omega
    ·rw[if_neg H]
     by_cases E:(x.kind==5)=true
     ·rw[if_pos E,ByteArray.size_append,ByteArray.size_append,ByteArray.size_append]
      have:cPoint.size=1:=rfl
      have:cParens.size=2:=rfl
      omega
     ·rw[if_neg E]
      by_cases j:(x.kind==6)=true
      ·rw[if_pos j,if_pos (zbn (.inl j)),ByteArray.size_append,ByteArray.size_append]
       have:=zeJ (zK (ex.getD x.r.toNat zf).kind) (prX ex x.r.toNat)
       have:tPlus.size=3:=rfl
       omega
      ·rw[if_neg j]
       by_cases q:(x.kind==7)=true
       ·rw[if_pos q,if_pos (zbn (.inr (.inl q))),ByteArray.size_append,ByteArray.size_append]
        have:=zeJ (zK (ex.getD x.r.toNat zf).kind) (prX ex x.r.toNat)
        have:tMinus.size=3:=rfl
        omega
       ·rw[if_neg q]
        by_cases n:(x.kind==8)=true
        ·rw[if_pos n,if_pos (zbn (.inr (.inr n))),ByteArray.size_append,ByteArray.size_append]
         have:=zeJ (zK (ex.getD x.l.toNat zf).kind) (prX ex x.l.toNat)
         have:=zeJ (zR (ex.getD x.r.toNat zf).kind) (prX ex x.r.toNat)
         have:tStar.size=3:=rfl
         omega
        ·rw[if_neg n]
         show 0≤_
         omega
def zaR (ex:List Ex):Prop:=∀x∈ex,-9223372036854775808≤x.num∧x.num≤9223372036854775807
theorem zdd {ex:List Ex} {i:Nat} (h:i<ex.length):ex.getD i zf=ex[i]:=by simp[List.getD,List.getElem?_eq_getElem h]
theorem zjU (f:Nat→Nat) (n:Nat): ∀q:List Sm,(∀s∈q,0≤s.expr∧s.expr<(n:Int))→(q.map fun s=>f s.expr.toNat).sum=sm n (fun j=>za9 q (j:Int)*f j):=by
 intro q
 induction q with
 |nil=>intro _;show 0=_;rw[←zfB n];exact zdb fun j _=>by simp[za9]
 |cons s q z=>
  intro h
  rw[List.map_cons,List.sum_cons,z fun x A=>h x (List.mem_cons_of_mem _ A)]
  have w:=h s List.mem_cons_self
  rw[←zfC f n s.expr w.1 w.2,←zfA]
  refine zdb fun j _=>?_
  simp only[za9,List.map_cons,List.sum_cons]
  rw[Nat.add_mul]
theorem zjV {m:Md} (t:Tree m) (I:zaR m.ex): ∀d k,k+d=m.ex.length→
  (m.st.map fun s=>wt m.ex s.expr.toNat).sum≤sm k (fun j=>(za9 m.st (j:Int)+zai (m.ex.drop k) (j:Int))*wt m.ex j)+((m.ex.drop k).map zdc).sum:=by
 intro d
 induction d with
 |zero=>
  intro k w
  have:k=m.ex.length:=by omega
  subst this
  rw[zjU _ _ _ t.stm]
  refine Nat.le_trans (Nat.le_of_eq ?_) (Nat.le_add_right _ _)
  refine zdb fun j _=>?_
  rw[zjQ (Nat.le_refl _),Nat.add_zero]
 |succ d z=>
  intro k w
  have h:k<m.ex.length:=by omega
  refine Nat.le_trans (z (k+1) (by omega)) ?_
  have E:za9 m.st (k:Int)+zai (m.ex.drop (k+1)) (k:Int)=1:=by
   have:=t.once k h
   rw[←zjR t.ahead k h (k+1) 0 (by omega),List.drop_zero]
   omega
  rw[zcR,E,Nat.one_mul,List.drop_eq_getElem_cons h,List.map_cons,List.sum_cons]
  have A:=zjT t.ahead k (by rw[zdd h];exact I _ (List.getElem_mem h))
  rw[zdd h] at A
  have H:sm k (fun j=>(za9 m.st (j:Int)+zai (m.ex.drop k) (j:Int))*wt m.ex j)=sm k (fun j=>(za9 m.st (j:Int)+zai (m.ex.drop (k+1)) (j:Int))*wt m.ex j)+if zR m.ex[k].kind then wt m.ex m.ex[k].l.toNat+wt m.ex m.ex[k].r.toNat else 0:=by
   have e: ∀j:Nat,(za9 m.st (j:Int)+zai (m.ex.drop k) (j:Int))*wt m.ex j=(za9 m.st (j:Int)+zai (m.ex.drop (k+1)) (j:Int))*wt m.ex j+u1 m.ex[k] (j:Int)*wt m.ex j:=fun j=>by
    rw[zgJ h,←Nat.add_mul]
    congr 1
    omega
   rw[zdb fun j _=>e j,zfA]
   congr 1
   split
   ·next q=>
    have n:=t.ahead k _ (List.getElem?_eq_getElem h) q
    rw[←zfC (wt m.ex) k _ n.1 n.2.1,←zfC (wt m.ex) k _ n.2.2.1 n.2.2.2,←zfA]
    refine zdb fun j _=>?_
    rw[u1,if_pos q,Nat.add_mul]
   ·next q=>
    rw[←zfB k]
    refine zdb fun j _=>?_
    rw[u1,if_neg q,Nat.zero_mul]
  have D:zai (m.ex[k]::m.ex.drop (k+1))=zai (m.ex.drop k):=by rw[←List.drop_eq_getElem_cons h]
  rw[D,H]
  omega
theorem zjW {m:Md} (t:Tree m) (h:zaR m.ex):(m.st.map fun s=>wt m.ex s.expr.toNat).sum≤(m.ex.map zdc).sum:=by
 have:=zjV t h m.ex.length 0 (by omega)
 rw[zjP,Nat.zero_add,List.drop_zero] at this
 exact this
end Go.Proofs.YtjdddblpfbmpaaaGreat
