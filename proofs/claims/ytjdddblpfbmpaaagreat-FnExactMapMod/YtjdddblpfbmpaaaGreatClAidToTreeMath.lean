/-
  Plain facts of numbers and bytes,and small facts on what a call hands back: no program is spoken of.
  Two small facts: a block more,and a fact laid by. No program is spoken of.
  Strings made of byte slices: what 'string(b)' tells where b is a row of the call's own; rows that are filled place by place; what strings are as lists of numbers. No program is spoken of.
  Plain facts on texts as lists of numbers. No program is spoken of.
  Tokens of a text,as plain relations: where a run of bytes ends,which token stands at a place,what is passed over,and that each of these is one alone. No program is spoken of.
  Programs,as plain functions: what a row of tokens means. No program is spoken of.
  Plain facts on decimal digits. No program is spoken of.
  Texts of programs,as plain functions. No program is spoken of.
  An expression that is used once: the texts of all statements' expressions are together no longer than what all expressions zdL. No program is spoken of.
-/
import Derived.WalkKit
import Derived.PlainAid
import Derived.Laws.BytesArg
import Derived.Lib.Strings
namespace Go.Proofs.YtjdddblpfbmpaaaGreat
open Go.RowKit Go.PlainAid
def inB (a b c:Int):Bool:=decide (b≤a)&&decide (a≤c)
theorem zk {a b:Bool} (h:a=b):Ending.returned (.bool a)= .returned (.bool b):=by rw[h]
theorem zfA {k:IntKind} {a b:Int} (h:a=b):Ending.returned (.int k a)= .returned (.int k b):=by rw[h]
theorem za1 {a b:ByteArray} (h:a=b):Ending.returned (.string a)= .returned (.string b):=by rw[h]
theorem zd7 {a b:Int} {c d:Bool} (h:a=b) (k:c=d):Ending.returned (.tuple #[.int .i64 a,.bool c])= .returned (.tuple #[.int .i64 b,.bool d]):=by rw[h,k]
def zii (s:ByteArray):Nat→Int
 |0=>0
 |k+1=>zii s k*256+bt s k
def zlI (s:ByteArray) (n:Int):Bool:=inB n 1 7&&decide (n≤s.size)
def rfV (s:ByteArray) (n:Int):Int:=if zlI s n then zii s n.toNat else 0
abbrev sNone:ByteArray:={data:=#[]}
theorem zn (w:World) (o:Obj):(w.alloc o).heap.size=w.heap.size+1:=by show (w.heap.push _).size=_;simp
theorem zc {p:Prop} (h:p):Hid p:=h
def zcG (w:World) (base:Nat) (e:TypeId) (v:Value) (n:Nat) (xs:List Int):Prop:=w.ownsRow base e 1 v n (xs.map (Value.int .u8))
theorem zij {P:Program} {w:World} {src dst e:TypeId} (N:P.underlying src=some (.slice e)) (M:P.underlying e=some (.int .u8)) (L:P.underlying dst=some .string)
  {j n:Nat} {v:Value} {xs:List Int} (h:zcG w j e v n xs):(convert src dst v).run P w= .ok (.string (strOfNums xs)) w:=by
 obtain⟨H,Y⟩:=h
 rw[List.length_map,Nat.mul_one] at H
 rcases Y with ⟨rfl,rfl⟩|⟨g,z,I,rfl,X,U,Z,O,J,V⟩
 ·obtain rfl:=List.length_eq_zero_iff.1 H
  exact run_convert_bytes_nil w src e N M 0 0 dst L
 ·refine run_convert_bytes_arg w src e N M g 0 n z xs H (fun i hi=>?_) dst L
  have A:w.ownsRow j e 1 (.slice (some ⟨g,0,none⟩) n z) n (xs.map (Value.int .u8)):=⟨by simpa using H,.inr ⟨g,z,I,rfl,X,U,Z,O,J,V⟩⟩
  have:=A.cellAt i (by omega)
  rw[Nat.zero_add,this]
  simp[List.getD,List.getElem?_eq_getElem (show i<xs.length by omega)]
theorem zgL {P:Program} {src dst e:TypeId} (z:P.underlying src=some (.slice e)) (j:P.underlying e=some (.int .u8)) (h:P.underlying dst=some .string)
  (w:World) (x:Int):(convert src dst (.slice (some ⟨w.heap.size,0,none⟩) 1 1)).run P (w.alloc (.cells #[.int .u8 x] e))= .ok (.string (strOfNums [x])) (w.alloc (.cells #[.int .u8 x] e)):=by
 refine run_convert_bytes_arg _ src e z j w.heap.size 0 1 1 [x] rfl (fun i A=>?_) dst h
 obtain rfl:i=0:=by omega
 rw[World.cell?_alloc_new]
 rfl
theorem zlJ (xs h:List Int):strOfNums xs++strOfNums h=strOfNums (xs++h):=by
 unfold strOfNums
 rw[ByteArray.mk_append_mk,List.map_append]
theorem zfB (x:Int) (h:List Int):strOfNums [x]++strOfNums h=strOfNums (x::h):=zlJ [x] h
def zuB (L:List Int) (k:Nat):List Int:=L.take k++List.replicate (L.length-k) 0
def zcH (L:List Int) (k:Nat):List Int:=List.replicate (L.length-k) 0++L.drop (L.length-k)
theorem zik (L:List Int):zcH L 0=List.replicate L.length 0:=by simp[zcH]
theorem zil (L:List Int) (k:Nat) (x:Int) (h:k<L.length) (w:L[L.length-1-k]? =some x):(zcH L k).set (L.length-1-k) x=zcH L (k+1):=by
 have A:List.replicate (L.length-k) (0:Int)=List.replicate (L.length-(k+1)) 0++[0]:=by
  rw[show L.length-k=(L.length-(k+1))+1 from by omega,List.replicate_succ']
 have z:L.drop (L.length-(k+1))=x::L.drop (L.length-k):=by
  have e:L.length-(k+1)=L.length-1-k:=by omega
  rw[e]
  have j:L.length-1-k<L.length:=by omega
  rw[List.drop_eq_getElem_cons j]
  rw[List.getElem?_eq_getElem j] at w
  simp only[Option.some.injEq] at w
  rw[w,show L.length-1-k+1=L.length-k from by omega]
 unfold zcH
 rw[A,z,List.append_assoc,List.set_append_right _ _ (by simp;omega),List.length_replicate,show L.length-1-k-(L.length-(k+1))=0 from by omega]
 rfl
theorem zgM {w:World} {B g n z:Nat} {e:TypeId} {L:List Int} (h:zcG w B e (.slice (some ⟨g,0,none⟩) n z) n L) (j:Nat) (x:Int):
  zcG (w.setCell ⟨g,j,none⟩ (.int .u8 x)) B e (.slice (some ⟨g,0,none⟩) n z) n (L.set j x):=by
 unfold zcG at h ⊢
 rw[List.map_set]
 exact (h.stored j (.int .u8 x)).1
theorem zgN {w:World} {B g n z:Nat} {e:TypeId} {L:List Int} (h:zcG w B e (.slice (some ⟨g,0,none⟩) n z) n L) (j:Nat) (H:j<n): ∃v,w.cell? ⟨g,j,none⟩=some v:=by
 unfold zcG at h
 have A:=h.1
 rw[List.length_map,Nat.mul_one] at A
 rw[h.cellAt j (by omega)]
 simp[List.getElem?_eq_getElem (show j<L.length by omega)]
theorem zgO {w:World} {B g n z:Nat} {e:TypeId} {L:List Int} (h:zcG w B e (.slice (some ⟨g,0,none⟩) n z) n L) (j:Nat):w.frozen? ⟨g,j,none⟩=false:=World.ownsRow.frozenAt h j
def dl (n:Int):Nat→List Int
 |0=>[]
 |k+1=>(n/2^(8*k)%256)::dl n k
def zlK (n m:Int):Bool:=inB m 1 7&&decide (0≤n)&&decide (n/2^(8*m.toNat)=0)
def fxL (n m:Int):List Int:=if zlK n m then dl n m.toNat else []
def bsl (s:ByteArray):Nat→Nat→List Int
 |_,0=>[]
 |i,m+1=>bt s i::bsl s (i+1) m
theorem zlL (s:ByteArray) (i m:Nat):(bsl s i m).length=m:=by
 induction m generalizing i with
 |zero=>rfl
 |succ m h=>simp[bsl,h]
theorem zlM (s:ByteArray) (i:Nat) (h:i<s.data.toList.length):UInt8.ofNat (bt s i).toNat=s.data.toList[i]:=by
 have j:i<s.size:=by simpa using h
 rw[←get_bt s i j,Int.toNat_natCast,UInt8.ofNat_toNat]
 rfl
theorem zlN (s:ByteArray) (i m:Nat) (h:i+m≤s.size):(bsl s i m).map (fun n=>UInt8.ofNat n.toNat)=(s.data.toList.drop i).take m:=by
 induction m generalizing i with
 |zero=>simp[bsl]
 |succ m w=>
  have j:i<s.data.toList.length:=by rw[Array.length_toList];exact Nat.lt_of_lt_of_le (show i<i+(m+1) by omega) h
  rw[bsl,List.map_cons,w (i+1) (by omega),List.drop_eq_getElem_cons j,List.take_succ_cons,zlM s i j]
theorem zim (s:ByteArray) (k:Nat) (h:k≤s.size):s.extract 0 k=strOfNums (bsl s 0 k):=by
 have e:(s.extract 0 k).data.toList=(strOfNums (bsl s 0 k)).data.toList:=by
  rw[Lib.extract_data,strOfNums_data,zlN s 0 k (by omega),Nat.sub_zero]
 have j:(s.extract 0 k).data=(strOfNums (bsl s 0 k)).data:=by
  rw[←Array.toArray_toList (xs:=(s.extract 0 k).data),e,Array.toArray_toList]
 have w: ∀a b:ByteArray,a.data=b.data→a=b:=by rintro⟨a⟩ ⟨b⟩ h;cases h;rfl
 exact w _ _ j
theorem zgP {a b:ByteArray} (h:a.data.toList=b.data.toList):a=b:=by
 obtain⟨⟨a⟩⟩:=a
 obtain⟨⟨b⟩⟩:=b
 simp only at h
 rw[h]
theorem zin (a b:ByteArray):(a.toList==b.toList)=true↔a=b:=by
 rw[beq_iff_eq,Lib.toList_data,Lib.toList_data]
 exact⟨zgP,fun h=>by rw[h]⟩
theorem zlO (s:ByteArray):s=strOfNums (bsl s 0 s.size):=by
 rw[←zim s s.size (Nat.le_refl _)]
 refine zgP ?_
 rw[Lib.extract_data,List.drop_zero,Nat.sub_zero,List.take_of_length_le]
 rw[Array.length_toList]
 exact Nat.le_refl _
theorem zdt (s:ByteArray) (k:Nat):bt s k=(s.data.toList.map (fun b=>(b.toNat:Int))).getD k 0:=by
 unfold bt
 by_cases h:k<s.size
 ·rw[dif_pos h]
  have j:k<s.data.toList.length:=by rw[Array.length_toList];exact h
  simp only[List.getD,List.getElem?_map,List.getElem?_eq_getElem j,Option.map_some,Option.getD_some]
  rfl
 ·rw[dif_neg h]
  have j:s.data.toList.length≤k:=by rw[Array.length_toList];exact Nat.le_of_not_lt h
  simp[List.getD,List.getElem?_eq_none j]
def za3 (c:Int) (scr:Bool):Bool:=decide (97≤c∧c≤122)||decide (65≤c∧c≤90)||decide (c=95)||(scr&&decide (c=36))
def zH (c:Int):Bool:=decide (48≤c∧c≤57)
def zK (scr:Bool) (c:Int):Bool:=za3 c scr||zH c
def zbx (c:Int):Bool:=decide (c≠10)
abbrev zc8 (c:Int):Prop:=c=9∨c=10∨c=13∨c=32
abbrev zbk (c:Int):Prop:=c=123∨c=125∨c=40∨c=41∨c=44∨c=59∨c=61∨c=46∨c=42∨c=43∨c=45
abbrev zbB (c:Int):Prop:=32≤c∧c≤126∧c≠34∧c≠92
theorem zdH {c:Int} {h:Bool}:za3 c h=true↔(97≤c∧c≤122)∨(65≤c∧c≤90)∨c=95∨(h=true∧c=36):=by simp[za3,or_assoc]
theorem zcI {c:Int}:zH c=true↔48≤c∧c≤57:=by simp[zH]
def za4 (p:Int→Bool) (s:ByteArray) (a e:Nat):Prop:=a≤e∧e≤s.size∧(∀j,a≤j→j<e→p (bt s j)=true)∧(e<s.size→p (bt s e)=false)
theorem zeP {p:Int→Bool} {s:ByteArray} {a j w:Nat} (L:za4 p s a j) (I:za4 p s a w):j=w:=by
 obtain⟨H,O,N,M⟩:=L
 obtain⟨J,U,z,A⟩:=I
 rcases Nat.lt_trichotomy j w with h|h|h
 ·have:=z j H h
  rw[M (by omega)] at this
  cases this
 ·exact h
 ·have:=N w J h
  rw[A (by omega)] at this
  cases this
def zbC (s:ByteArray) (a:Nat):Nat→Int
 |0=>0
 |k+1=>zbC s a k*10+(bt s (a+k)-48)
def zaX (s:ByteArray) (a:Nat) (scr:Bool) (n:Int) (e:Nat):Prop:=
 za4 zH s a e∧a<e∧(e=a+1∨bt s a≠48)∧n=zbC s a (e-a)∧n≤1000000∧(e<s.size→za3 (bt s e) scr=false)
theorem zlP {s:ByteArray} {a:Nat} {h:Bool} {z H:Int} {j I:Nat} (A:zaX s a h z j) (w:zaX s a h H I):z=H∧j=I:=by
 have J:=zeP A.1 w.1
 subst J
 exact⟨A.2.2.2.1.trans w.2.2.2.1.symm,rfl⟩
theorem zio {s:ByteArray} {a:Nat} (k m:Nat) (w: ∀j,j<m→48≤bt s (a+j)) (L:k≤m):0≤zbC s a k∧zbC s a k≤zbC s a m:=by
 have J: ∀m,(∀j,j<m→48≤bt s (a+j))→0≤zbC s a m:=by
  intro m
  induction m with
  |zero=>intro _;exact Int.le_refl _
  |succ m z=>
   intro h
   have A:=z (fun j H=>h j (by omega))
   have I:=h m (by omega)
   show 0≤zbC s a m*10+(bt s (a+m)-48)
   omega
 induction m with
 |zero=>
  obtain rfl:k=0:=by omega
  exact⟨Int.le_refl _,Int.le_refl _⟩
 |succ m z=>
  by_cases e:k=m+1
  ·subst e
   exact⟨J _ w,Int.le_refl _⟩
  ·obtain⟨A,I⟩:=z (fun j H=>w j (by omega)) (by omega)
   have M:=w m (by omega)
   refine⟨A,?_⟩
   show _≤zbC s a m*10+(bt s (a+m)-48)
   omega
def zby (s:ByteArray) (a e:Nat):Prop:=a+2≤e∧e≤s.size∧e≤a+42∧bt s (e-1)=34∧∀j,a<j→j+1<e→zbB (bt s j)
theorem zlQ {s:ByteArray} {a j w:Nat} (J:zby s a j) (I:zby s a w):j=w:=by
 obtain⟨O,N,X,L,H⟩:=J
 obtain⟨U,V,M,A,z⟩:=I
 rcases Nat.lt_trichotomy j w with h|h|h
 ·exact absurd L (z (j-1) (by omega) (by omega)).2.2.1
 ·exact h
 ·exact absurd A (H (w-1) (by omega) (by omega)).2.2.1
structure Tk where
 kind:Int
 text:ByteArray
 num:Int
 pos:Nat
def Tok (s:ByteArray) (scr:Bool) (a:Nat) (t:Tk) (e:Nat):Prop:=
 (za3 (bt s a) scr=true∧za4 (zK scr) s a e∧t=⟨1,s.extract a e,0,a⟩)∨(∃n,zH (bt s a)=true∧zaX s a scr n e∧t=⟨2,{data:=#[]},n,a⟩)∨(bt s a=34∧zby s a e∧t=⟨3,s.extract (a+1) (e-1),0,a⟩)∨(zbk (bt s a)∧t=⟨4,s.extract a (a+1),0,a⟩∧e=a+1)
theorem Tok.name {s:ByteArray} {j:Bool} {a e:Nat} (h:za3 (bt s a) j=true) (w:za4 (zK j) s a e):Tok s j a ⟨1,s.extract a e,0,a⟩ e:=.inl ⟨h,w,rfl⟩
theorem Tok.num {s:ByteArray} {j:Bool} {a e:Nat} {n:Int} (h:zH (bt s a)=true) (w:zaX s a j n e):Tok s j a ⟨2,{data:=#[]},n,a⟩ e:=.inr (.inl ⟨n,h,w,rfl⟩)
theorem Tok.str {s:ByteArray} {j:Bool} {a e:Nat} (h:bt s a=34) (w:zby s a e):Tok s j a ⟨3,s.extract (a+1) (e-1),0,a⟩ e:=.inr (.inr (.inl ⟨h,w,rfl⟩))
theorem Tok.sign {s:ByteArray} {j:Bool} {a:Nat} (h:zbk (bt s a)):Tok s j a ⟨4,s.extract a (a+1),0,a⟩ (a+1):=.inr (.inr (.inr ⟨h,rfl,rfl⟩))
theorem Tok.elim {s:ByteArray} {scr:Bool} {a:Nat} {motive:(t:Tk)→(e:Nat)→Tok s scr a t e→Prop} {t:Tk} {e:Nat} (h:Tok s scr a t e) (name: ∀{e:Nat} (h:za3 (bt s a) scr=true) (he:za4 (zK scr) s a e),motive _ e (.name h he)) (num: ∀{n:Int} {e:Nat} (h:zH (bt s a)=true) (he:zaX s a scr n e),motive _ e (.num h he)) (str: ∀{e:Nat} (h:bt s a=34) (he:zby s a e),motive _ e (.str h he)) (sign: ∀(h:zbk (bt s a)),motive _ _ (.sign h)):motive t e h:=by
 rcases h with ⟨h1,h2,rfl⟩|⟨n,h1,h2,rfl⟩|⟨h1,h2,rfl⟩|⟨h1,rfl,rfl⟩
 ·exact name h1 h2
 ·exact num h1 h2
 ·exact str h1 h2
 ·exact sign h1
theorem zen {c:Int} {j:Bool} (h:za3 c j=true):zH c=false∧c≠34∧¬zbk c:=by
 rw[zdH] at h
 refine⟨decide_eq_false (by omega),by omega,by unfold zbk;omega⟩
theorem zeo {c:Int} (h:zH c=true):c≠34∧¬zbk c:=by
 rw[zcI] at h
 exact⟨by omega,by unfold zbk;omega⟩
theorem zlR {s:ByteArray} {H:Bool} {a:Nat} {L J:Tk} {M N:Nat} (O:Tok s H a L M) (I:Tok s H a J N):L=J∧M=N:=by
 cases O using Tok.elim with
 |name h A=>
  have z:=zen h
  cases I using Tok.elim with
  |name j w=>have:=zeP A w;subst this;exact⟨rfl,rfl⟩
  |num j w=>rw[z.1] at j;cases j
  |str j w=>exact absurd j z.2.1
  |sign j=>exact absurd j z.2.2
 |num h A=>
  have z:=zeo h
  cases I using Tok.elim with
  |name j w=>rw[(zen j).1] at h;cases h
  |num j w=>obtain⟨rfl,rfl⟩:=zlP A w;exact⟨rfl,rfl⟩
  |str j w=>exact absurd j z.1
  |sign j=>exact absurd j z.2
 |str h A=>
  cases I using Tok.elim with
  |name j w=>exact absurd h (zen j).2.1
  |num j w=>exact absurd h (zeo j).1
  |str j w=>have:=zlQ A w;subst this;exact⟨rfl,rfl⟩
  |sign j=>rw[h] at j;unfold zbk at j;omega
 |sign h=>
  cases I using Tok.elim with
  |name j w=>exact absurd h (zen j).2.2
  |num j w=>exact absurd h (zeo j).2
  |str j w=>rw[j] at h;unfold zbk at h;omega
  |sign j=>exact⟨rfl,rfl⟩
theorem zep {s:ByteArray} {w:Bool} {a:Nat} {t:Tk} {e:Nat} (z:a<s.size) (h:Tok s w a t e):a<e∧e≤s.size∧t.pos=a:=by
 cases h using Tok.elim with
 |name h j=>
  refine⟨?_,j.2.1,rfl⟩
  rcases Nat.lt_or_ge a e with k|k
  ·exact k
  ·have A:e=a:=by have:=j.1;omega
   subst A
   have:=j.2.2.2 z
   simp[zK,h] at this
 |num h j=>exact⟨j.2.1,j.1.2.1,rfl⟩
 |str h j=>exact⟨by have:=j.1;omega,j.2.1,rfl⟩
 |sign h=>exact⟨by omega,by omega,rfl⟩
abbrev zcs (s:ByteArray) (a:Nat):Prop:=bt s a=47∧a+1<s.size∧bt s (a+1)=47
def zlS (s:ByteArray) (P:Nat→Nat→Prop):Prop:=P s.size s.size∧(∀a,a<s.size→¬zc8 (bt s a)→¬zcs s a→P a a)∧(∀a b,a<s.size→zc8 (bt s a)→P (a+1) b→P a b)∧∀a c b,a<s.size→zcs s a→za4 zbx s a c→P c b→P a b
def Skip (s:ByteArray) (a b:Nat):Prop:=∀P,zlS s P→P a b
theorem Skip.done {s:ByteArray}:Skip s s.size s.size:=fun _ k=>k.1
theorem Skip.stop {s:ByteArray} {a:Nat} (h:a<s.size) (j: ¬zc8 (bt s a)) (w: ¬zcs s a):Skip s a a:=fun _ k=>k.2.1 a h j w
theorem Skip.blank {s:ByteArray} {a b:Nat} (h:a<s.size) (j:zc8 (bt s a)) (r:Skip s (a+1) b):Skip s a b:=fun P k=>k.2.2.1 a b h j (r P k)
theorem Skip.comment {s:ByteArray} {a c b:Nat} (h:a<s.size) (j:zcs s a) (w:za4 zbx s a c) (r:Skip s c b):Skip s a b:=fun P k=>k.2.2.2 a c b h j w (r P k)
theorem Skip.ind {s:ByteArray} {motive:(a b:Nat)→Skip s a b→Prop} {a b:Nat} (h:Skip s a b) (done:motive _ _ .done) (stop: ∀{a:Nat} (h:a<s.size) (h1: ¬zc8 (bt s a)) (h2: ¬zcs s a),motive a a (.stop h h1 h2)) (blank: ∀{a b:Nat} (h:a<s.size) (h1:zc8 (bt s a)) (r:Skip s (a+1) b),motive _ _ r→motive a b (.blank h h1 r)) (comment: ∀{a c b:Nat} (h:a<s.size) (h1:zcs s a) (hc:za4 zbx s a c) (r:Skip s c b),motive _ _ r→motive a b (.comment h h1 hc r)):motive a b h:=
 (h (fun a b=>∃k,motive a b k) ⟨⟨_,done⟩,fun _ h h1 h2=>⟨_,stop h h1 h2⟩,fun _ _ h h1 ⟨r,k⟩=>⟨_,blank h h1 r k⟩,fun _ _ _ h h1 hc ⟨r,k⟩=>⟨_,comment h h1 hc r k⟩⟩).2
theorem Skip.elim {s:ByteArray} {motive:(a b:Nat)→Skip s a b→Prop} {a b:Nat} (h:Skip s a b) (done:motive _ _ .done) (stop: ∀{a:Nat} (h:a<s.size) (h1: ¬zc8 (bt s a)) (h2: ¬zcs s a),motive a a (.stop h h1 h2)) (blank: ∀{a b:Nat} (h:a<s.size) (h1:zc8 (bt s a)) (r:Skip s (a+1) b),motive a b (.blank h h1 r)) (comment: ∀{a c b:Nat} (h:a<s.size) (h1:zcs s a) (hc:za4 zbx s a c) (r:Skip s c b),motive a b (.comment h h1 hc r)):motive a b h:=
 h.ind done stop (fun h h1 r _=>blank h h1 r) (fun h h1 hc r _=>comment h h1 hc r)
theorem zip {s:ByteArray} {a:Nat} (h:zcs s a): ¬zc8 (bt s a):=by rw[h.1];unfold zc8;omega
theorem ziq {s:ByteArray} {a I b2:Nat} (J:Skip s a I):Skip s a b2→I=b2:=by
 induction J using Skip.ind with
 |done=>
  intro j
  generalize M:s.size=x at j
  cases j using Skip.elim with
  |done=>rfl
  |stop h _ _=>omega
  |blank h _ _=>omega
  |comment h _ _ _=>omega
 |stop h w z=>
  intro j
  cases j using Skip.elim with
  |done=>rfl
  |stop _ _ _=>rfl
  |blank _ k _=>exact absurd k w
  |comment _ k _ _=>exact absurd k z
 |blank h k _ A=>
  intro j
  cases j using Skip.elim with
  |done=>exact absurd h (Nat.lt_irrefl _)
  |stop _ w _=>exact absurd k w
  |blank _ _ r=>exact A r
  |comment _ w _ _=>exact absurd k (zip w)
 |comment h k L _ A=>
  intro j
  cases j using Skip.elim with
  |done=>exact absurd h (Nat.lt_irrefl _)
  |stop _ _ z=>exact absurd k z
  |blank _ w _=>exact absurd w (zip k)
  |comment _ _ H r=>have:=zeP L H;subst this;exact A r
theorem zgQ {s:ByteArray} {a b:Nat} (h:Skip s a b):a≤b∧b≤s.size:=by
 induction h using Skip.ind with
 |done=>exact⟨Nat.le_refl _,Nat.le_refl _⟩
 |stop h _ _=>exact⟨Nat.le_refl _,by omega⟩
 |blank h _ _ j=>exact⟨by omega,j.2⟩
 |comment h _ w _ j=>exact⟨by have:=w.1;omega,j.2⟩
def LxK (s:ByteArray) (scr:Bool) (P:Nat→Nat→Except Nat (List Tk)→Prop):Prop:=(∀n,P s.size n (.ok []))∧(∀a n,a<s.size→(4000≤n∨∀t e,¬Tok s scr a t e)→P a n (.error a))∧∀a n e b t r,a<s.size→n<4000→Tok s scr a t e→Skip s e b→P b (n+1) r→P a n (r.map (t:: ·))
def Lx (s:ByteArray) (scr:Bool) (a n:Nat) (r:Except Nat (List Tk)):Prop:=∀P,LxK s scr P→P a n r
theorem Lx.done {s:ByteArray} {h:Bool} {n:Nat}:Lx s h s.size n (.ok []):=fun _ k=>k.1 n
theorem Lx.bad {s:ByteArray} {j:Bool} {a n:Nat} (h:a<s.size) (w:4000≤n∨∀t e,¬Tok s j a t e):Lx s j a n (.error a):=fun _ k=>k.2.1 a n h w
theorem Lx.tok {s:ByteArray} {j:Bool} {a n e b:Nat} {t:Tk} {r:Except Nat (List Tk)} (h:a<s.size) (H:n<4000) (z:Tok s j a t e) (A:Skip s e b) (w:Lx s j b (n+1) r):Lx s j a n (r.map (t:: ·)):=fun P k=>k.2.2 a n e b t r h H z A (w P k)
theorem Lx.ind {s:ByteArray} {scr:Bool} {motive:(a n:Nat)→(r:Except Nat (List Tk))→Lx s scr a n r→Prop} {a n:Nat} {r:Except Nat (List Tk)} (h:Lx s scr a n r) (done: ∀{n:Nat},motive _ n _ .done) (bad: ∀{a n:Nat} (h:a<s.size) (h1:4000≤n∨∀t e,¬Tok s scr a t e),motive a n _ (.bad h h1)) (tok: ∀{a n e b:Nat} {t:Tk} {r:Except Nat (List Tk)} (h:a<s.size) (hn:n<4000) (ht:Tok s scr a t e) (hs:Skip s e b) (hr:Lx s scr b (n+1) r),motive _ _ _ hr→motive a n _ (.tok h hn ht hs hr)):motive a n r h:=
 (h (fun a n r=>∃k,motive a n r k) ⟨fun _=>⟨_,done⟩,fun _ _ h h1=>⟨_,bad h h1⟩,fun _ _ _ _ _ _ h hn ht hs ⟨hr,k⟩=>⟨_,tok h hn ht hs hr k⟩⟩).2
theorem Lx.elim {s:ByteArray} {scr:Bool} {motive:(a n:Nat)→(r:Except Nat (List Tk))→Lx s scr a n r→Prop} {a n:Nat} {r:Except Nat (List Tk)} (h:Lx s scr a n r) (done: ∀{n:Nat},motive _ n _ .done) (bad: ∀{a n:Nat} (h:a<s.size) (h1:4000≤n∨∀t e,¬Tok s scr a t e),motive a n _ (.bad h h1)) (tok: ∀{a n e b:Nat} {t:Tk} {r:Except Nat (List Tk)} (h:a<s.size) (hn:n<4000) (ht:Tok s scr a t e) (hs:Skip s e b) (hr:Lx s scr b (n+1) r),motive a n _ (.tok h hn ht hs hr)):motive a n r h:=
 h.ind done bad (fun h hn ht hs hr _=>tok h hn ht hs hr)
theorem zlT {s:ByteArray} {w:Bool} {a n:Nat} {J H:Except Nat (List Tk)} (M:Lx s w a n J):Lx s w a n H→J=H:=by
 induction M using Lx.ind generalizing H with
 |done=>
  intro j
  generalize U:s.size=x at j
  cases j using Lx.elim with
  |done=>rfl
  |bad h _=>omega
  |tok h _ _ _ _=>omega
 |bad h k=>
  intro j
  cases j using Lx.elim with
  |done=>exact absurd h (Nat.lt_irrefl _)
  |bad _ _=>rfl
  |tok _ O z _ _=>exact k.elim (fun k=>by omega) fun k=>absurd z (k _ _)
 |tok h O z N _ L=>
  intro j
  cases j using Lx.elim with
  |done=>exact absurd h (Nat.lt_irrefl _)
  |bad _ k=>exact k.elim (fun k=>by omega) fun k=>absurd z (k _ _)
  |tok _ _ A I r=>
   obtain⟨rfl,rfl⟩:=zlR z A
   have:=ziq N I
   subst this
   rw[L r]
def zak (s:ByteArray) (scr:Bool) (r:Except Nat (List Tk)):Prop:=∃a,Skip s 0 a∧Lx s scr a 0 r
theorem zlU {s:ByteArray} {h:Bool} {w j:Except Nat (List Tk)} (J:zak s h w) (A:zak s h j):w=j:=by
 obtain⟨a,L,H⟩:=J
 obtain⟨b,z,I⟩:=A
 have:=ziq L z
 subst this
 exact zlT H I
structure Ex where
 kind:Int
 num:Int
 name:ByteArray
 field:ByteArray
 l:Int
 r:Int
structure Sm where
 kind:Int
 name:ByteArray
 expr:Int
structure Im where
 spec:ByteArray
 first:ByteArray
 loc:ByteArray
structure Ep where
 kind:Int
 name:ByteArray
 loc:ByteArray
 spec:ByteArray
structure Cx where
 ts:List Tk
 fin:Nat
 scr:Bool
structure PS where
 pos:Nat
 rq:List ByteArray
 im:List Im
 ep:List Ep
 st:List Sm
 ex:List Ex
 la:List Ep
abbrev PR:=Except Nat PS
abbrev zan:ByteArray:={data:=#[105,109,112,111,114,116]}
abbrev zal:ByteArray:={data:=#[101,120,112,111,114,116]}
abbrev sDefault:ByteArray:={data:=#[100,101,102,97,117,108,116]}
abbrev zE:ByteArray:={data:=#[108,101,116]}
abbrev zT:ByteArray:={data:=#[102,117,110,99,116,105,111,110]}
abbrev zeq:ByteArray:={data:=#[114,101,116,117,114,110]}
abbrev zay:ByteArray:={data:=#[112,114,105,110,116]}
abbrev zaA:ByteArray:={data:=#[116,104,114,111,119]}
abbrev zbR:ByteArray:={data:=#[102,97,105,108]}
abbrev zaF:ByteArray:={data:=#[117,110,100,101,102]}
abbrev sAs:ByteArray:={data:=#[97,115]}
abbrev zU:ByteArray:={data:=#[102,114,111,109]}
abbrev zci:ByteArray:={data:=#[42,100,101,102,97,117,108,116]}
abbrev zr:ByteArray:={data:=#[40]}
abbrev za8:ByteArray:={data:=#[41]}
abbrev zz:ByteArray:={data:=#[42]}
abbrev zct:ByteArray:={data:=#[43]}
abbrev zbD:ByteArray:={data:=#[44]}
abbrev zbl:ByteArray:={data:=#[45]}
abbrev cPoint:ByteArray:={data:=#[46]}
abbrev cSemi:ByteArray:={data:=#[59]}
abbrev cEq:ByteArray:={data:=#[61]}
abbrev zL:ByteArray:={data:=#[123]}
abbrev zbz:ByteArray:={data:=#[125]}
def bd {α β:Type} (x:Except Nat α) (f:α→Except Nat β):Except Nat β:=
 match x with
 | .ok a=>f a
 | .error e=>.error e
theorem zB {α β:Type} (a:α) (f:α→Except Nat β):bd (.ok a) f=f a:=rfl
theorem zer {α β:Type} (e:Nat) (f:α→Except Nat β):bd (.error e) f= .error e:=rfl
theorem zO {α β γ:Type} (x:Except Nat α) (f:α→Except Nat β) (g:β→Except Nat γ):bd (bd x f) g=bd x fun a=>bd (f a) g:=by cases x<;>rfl
theorem zag {α β:Type} {x:Except Nat α} {f g:α→Except Nat β} (h: ∀a,x= .ok a→f a=g a):bd x f=bd x g:=by
 cases x with
 |ok a=>exact h a rfl
 |error e=>rfl
theorem zp {α β:Type} {x:Except Nat α} {f:α→Except Nat β} {b:β} (h:bd x f= .ok b): ∃a,x= .ok a∧f a= .ok b:=by
 cases x with
 |ok a=>exact⟨a,rfl,h⟩
 |error e=>cases h
def zf (C:Cx) (i:Nat):Tk:=C.ts.getD i ⟨0,sNone,0,C.fin⟩
def zu (C:Cx) (i:Nat):Nat:=(zf C i).pos
def isT (C:Cx) (i:Nat) (k:Int) (x:ByteArray):Bool:=((zf C i).kind==k)&&((zf C i).text.toList==x.toList)
def adv (q:PS):PS:={q with pos:=q.pos+1}
def ze (C:Cx) (k:Int) (x:ByteArray) (q:PS):PR:=if isT C q.pos k x then .ok (adv q) else .error (zu C q.pos)
def zw (x:ByteArray) (scr:Bool):Bool:=
 x.toList==[105,109,112,111,114,116]||x.toList==[101,120,112,111,114,116]||x.toList==[100,101,102,97,117,108,116]||x.toList==[108,101,116]||x.toList==[102,117,110,99,116,105,111,110]||x.toList==[114,101,116,117,114,110]||x.toList==[112,114,105,110,116]||x.toList==[116,104,114,111,119]
  ||((x.toList==[102,97,105,108]||x.toList==[117,110,100,101,102])&&scr)
def zF (C:Cx) (i:Nat) (o:Bool):Bool:=((zf C i).kind==1)&&(!zw (zf C i).text C.scr||(o&&((zf C i).text.toList==[100,101,102,97,117,108,116])))
def zo (C:Cx) (o:Bool) (q:PS):Except Nat (PS×ByteArray):=if zF C q.pos o then .ok (adv q,(zf C q.pos).text) else .error (zu C q.pos)
def zaJ (l:List ByteArray) (x:ByteArray):Bool:=l.any fun y=>y.toList==x.toList
def zJ (C:Cx) (q:PS):Except Nat (PS×ByteArray):=
 if (zf C q.pos).kind==3 then
  if zaJ q.rq (zf C q.pos).text then .ok (adv q,(zf C q.pos).text)
  else if 40≤q.rq.length then .error (zu C q.pos)
  else .ok ({adv q with rq:=q.rq++[(zf C q.pos).text]},(zf C q.pos).text)
 else .error (zu C q.pos)
def zao (C:Cx) (x:Im) (q:PS):PR:=if 40≤q.im.length then .error (zu C (q.pos-1)) else .ok {q with im:=q.im++[x]}
def zs (C:Cx) (x:Ep) (q:PS):PR:=
 if 40≤q.ep.length+q.la.length then .error (zu C (q.pos-1))
 else if x.loc.toList==[42,100,101,102,97,117,108,116] then .ok {q with la:=q.la++[x]} else .ok {q with ep:=q.ep++[x]}
def zW (C:Cx) (k:Int) (n:ByteArray) (q:PS):PR:=if 80≤q.st.length then .error (zu C (q.pos-1)) else .ok {q with st:=q.st++[⟨k,n,(q.ex.length:Int)-1⟩]}
def zQ (C:Cx) (x:Ex) (q:PS):PR:=if 300≤q.ex.length then .error (zu C (q.pos-1)) else .ok {q with ex:=q.ex++[x]}
def zbE (C:Cx) (n:ByteArray) (q:PS):PR:=
 if isT C q.pos 4 zr then bd (bd (ze C 4 zr q) (ze C 4 za8)) (zQ C ⟨3,0,n,sNone,0,0⟩) else zQ C ⟨2,0,n,sNone,0,0⟩ q
def zbS (C:Cx) (n f:ByteArray) (q:PS):PR:=
 if isT C q.pos 4 zr then bd (bd (ze C 4 zr q) (ze C 4 za8)) (zQ C ⟨5,0,n,f,0,0⟩) else zQ C ⟨4,0,n,f,0,0⟩ q
abbrev NT:Type:=Option (Option (Option (Option Unit)))
abbrev NT.sum:NT:=none
abbrev NT.sumT:NT:=some none
abbrev NT.prod:NT:=some (some none)
abbrev NT.prodT:NT:=some (some (some none))
abbrev NT.part:NT:=some (some (some (some ())))
theorem NT.elim {motive:NT→Prop} (nt:NT) (sum:motive .sum) (sumT:motive .sumT) (prod:motive .prod) (prodT:motive .prodT) (part:motive .part):motive nt:=
 match nt with
 |none=>sum
 |some none=>sumT
 |some (some none)=>prod
 |some (some (some none))=>prodT
 |some (some (some (some ())))=>part
def zdu (C:Cx) (i:Nat):Int:=if isT C i 4 zbl then 7 else 6
def ev (C:Cx):Nat→NT→Nat→PS→PR
 |0,_,_,_=>.error 0
 |f+1,none,d,q=>bd (ev C f .prod d q) (ev C f .sumT d)
 |f+1,some none,d,q=>
  if isT C q.pos 4 zct||isT C q.pos 4 zbl then
   bd (bd (ev C f .prod d (adv q)) fun q'=>zQ C ⟨zdu C q.pos,0,sNone,sNone,(q.ex.length:Int)-1,(q'.ex.length:Int)-1⟩ q') (ev C f .sumT d)
  else .ok q
 |f+1,some (some none),d,q=>bd (ev C f .part d q) (ev C f .prodT d)
 |f+1,some (some (some none)),d,q=>
  if isT C q.pos 4 zz then
   bd (bd (ev C f .part d (adv q)) fun q'=>zQ C ⟨8,0,sNone,sNone,(q.ex.length:Int)-1,(q'.ex.length:Int)-1⟩ q') (ev C f .prodT d)
  else .ok q
 |f+1,some (some (some (some ()))),d,q=>
  if (zf C q.pos).kind==2 then zQ C ⟨1,(zf C q.pos).num,sNone,sNone,0,0⟩ (adv q)
  else if isT C q.pos 4 zr then
   if 20≤d then .error (zu C q.pos) else bd (ev C f .sum (d+1) (adv q)) (ze C 4 za8)
  else if C.scr&&isT C q.pos 1 zaF then zbE C zaF (adv q)
  else bd (zo C false q) fun x=>if isT C x.1.pos 4 cPoint then bd (zo C true (adv x.1)) fun y=>zbS C x.2 y.2 y.1 else zbE C x.2 x.1
def nd (C:Cx) (nt:NT) (q:PS):Nat:=
 5*(C.ts.length-q.pos)+match nt with
  | .sum=>3
  | .prod=>2
  |_=>1
def pE (C:Cx) (nt:NT) (d:Nat) (q:PS):PR:=ev C (nd C nt q) nt d q
theorem zdI {C:Cx} {i:Nat} (h:C.ts.length≤i):zf C i=⟨0,sNone,0,C.fin⟩:=by simp[zf,List.getD,List.getElem?_eq_none h]
theorem za9 {C:Cx} {i:Nat} {k:Int} {x:ByteArray} (h:isT C i k x=true) (j:k≠0):i<C.ts.length:=by
 rcases Nat.lt_or_ge i C.ts.length with g|g
 ·exact g
 ·simp only[isT,zdI g,Bool.and_eq_true,beq_iff_eq] at h
  exact absurd h.1.symm j
theorem zfC {C:Cx} {i:Nat} {k:Int} (h:((zf C i).kind==k)=true) (j:k≠0):i<C.ts.length:=by
 rcases Nat.lt_or_ge i C.ts.length with g|g
 ·exact g
 ·simp only[zdI g,beq_iff_eq] at h
  exact absurd h.symm j
theorem zeQ {C:Cx} {i:Nat} {o:Bool} (h:zF C i o=true):i<C.ts.length:=by
 simp only[zF,Bool.and_eq_true] at h
 exact zfC h.1 (by decide)
theorem zbT {C:Cx} {k:Int} {x:ByteArray} {q q':PS} (h:ze C k x q= .ok q'):q'=adv q∧isT C q.pos k x=true:=by
 unfold ze at h
 split at h
 ·next g=>exact⟨by cases h;rfl,g⟩
 ·cases h
theorem zb0 {C:Cx} {o:Bool} {q:PS} {y:PS×ByteArray} (h:zo C o q= .ok y):y=(adv q,(zf C q.pos).text)∧zF C q.pos o=true:=by
 unfold zo at h
 split at h
 ·next g=>exact⟨by cases h;rfl,g⟩
 ·cases h
theorem zb1 {C:Cx} {x:Ex} {q q':PS} (h:zQ C x q= .ok q'):q'={q with ex:=q.ex++[x]}∧q.ex.length<300:=by
 unfold zQ at h
 split at h
 ·cases h
 ·cases h
  exact⟨rfl,by omega⟩
theorem zA (q:PS):(adv q).pos=q.pos+1:=rfl
theorem zir {C:Cx} {n:ByteArray} {q q':PS} (h:zbE C n q= .ok q'):q.pos≤q'.pos:=by
 unfold zbE at h
 split at h
 ·obtain⟨a,j,w⟩:=zp h
  obtain⟨b,A,z⟩:=zp j
  obtain⟨rfl,_⟩:=zbT A
  obtain⟨rfl,_⟩:=zbT z
  obtain⟨rfl,_⟩:=zb1 w
  show q.pos≤q.pos+1+1
  omega
 ·obtain⟨rfl,_⟩:=zb1 h
  exact Nat.le_refl _
theorem zlV {C:Cx} {n f:ByteArray} {q q':PS} (h:zbS C n f q= .ok q'):q.pos≤q'.pos:=by
 unfold zbS at h
 split at h
 ·obtain⟨a,j,w⟩:=zp h
  obtain⟨b,A,z⟩:=zp j
  obtain⟨rfl,_⟩:=zbT A
  obtain⟨rfl,_⟩:=zbT z
  obtain⟨rfl,_⟩:=zb1 w
  show q.pos≤q.pos+1+1
  omega
 ·obtain⟨rfl,_⟩:=zb1 h
  exact Nat.le_refl _
theorem zeR {C:Cx} (f:Nat): ∀(J:NT) (d:Nat) (q q':PS),ev C f J d q= .ok q'→q.pos≤q'.pos:=by
 induction f with
 |zero=>intro J d q q' h;cases J using NT.elim<;>cases h
 |succ f A=>
  intro J d q q' h
  cases J using NT.elim with
  |sum=>
   rw[ev] at h
   obtain⟨a,w,j⟩:=zp h
   exact Nat.le_trans (A _ _ _ _ w) (A _ _ _ _ j)
  |prod=>
   rw[ev] at h
   obtain⟨a,w,j⟩:=zp h
   exact Nat.le_trans (A _ _ _ _ w) (A _ _ _ _ j)
  |sumT=>
   rw[ev] at h
   split at h
   ·obtain⟨a,w,j⟩:=zp h
    obtain⟨b,L,I⟩:=zp w
    obtain⟨rfl,_⟩:=zb1 I
    have H:=A _ _ _ _ L
    have M:=A _ _ _ _ j
    rw[zA] at H
    exact Nat.le_trans (by omega:q.pos≤b.pos) M
   ·cases h
    exact Nat.le_refl _
  |prodT=>
   rw[ev] at h
   split at h
   ·obtain⟨a,w,j⟩:=zp h
    obtain⟨b,L,I⟩:=zp w
    obtain⟨rfl,_⟩:=zb1 I
    have H:=A _ _ _ _ L
    have M:=A _ _ _ _ j
    rw[zA] at H
    exact Nat.le_trans (by omega:q.pos≤b.pos) M
   ·cases h
    exact Nat.le_refl _
  |part=>
   rw[ev] at h
   split at h
   ·obtain⟨rfl,_⟩:=zb1 h
    show q.pos≤q.pos+1
    omega
   ·split at h
    ·split at h
     ·cases h
     ·obtain⟨a,w,j⟩:=zp h
      obtain⟨rfl,_⟩:=zbT j
      have H:=A _ _ _ _ w
      rw[zA] at H ⊢
      omega
    ·split at h
     ·have:=zir h
      rw[zA] at this
      omega
     ·obtain⟨y,w,j⟩:=zp h
      obtain⟨rfl,_⟩:=zb0 w
      simp only at j
      split at j
      ·obtain⟨z,L,I⟩:=zp j
       obtain⟨rfl,_⟩:=zb0 L
       have:=zlV I
       simp only[zA] at this
       omega
      ·have:=zir j
       rw[zA] at this
       omega
theorem zlW {C:Cx} (f:Nat): ∀(g:Nat) (w:NT) (d:Nat) (q:PS),nd C w q≤f→nd C w q≤g→ev C f w d q=ev C g w d q:=by
 induction f with
 |zero=>intro g w d q h;unfold nd at h;cases w using NT.elim<;>simp at h
 |succ f j=>
  intro g w d q J A
  obtain⟨g,rfl⟩: ∃N,g=N+1:=by
   match g with
   |0=>unfold nd at A;cases w using NT.elim<;>simp at A
   |g+1=>exact⟨g,rfl⟩
  cases w using NT.elim with
  |sum=>
   simp only[nd] at J A
   rw[ev,ev,j g .prod d q (by simp only[nd];omega) (by simp only[nd];omega)]
   refine zag fun a z=>?_
   have:=zeR _ _ _ _ _ z
   exact j g .sumT d a (by simp only[nd];omega) (by simp only[nd];omega)
  |prod=>
   simp only[nd] at J A
   rw[ev,ev,j g .part d q (by simp only[nd];omega) (by simp only[nd];omega)]
   refine zag fun a z=>?_
   have:=zeR _ _ _ _ _ z
   exact j g .prodT d a (by simp only[nd];omega) (by simp only[nd];omega)
  |sumT=>
   simp only[nd] at J A
   rw[ev,ev]
   split
   ·next H=>
    have I:q.pos<C.ts.length:=by
     rw[Bool.or_eq_true] at H
     exact H.elim (fun k=>za9 k (by decide)) fun k=>za9 k (by decide)
    rw[j g .prod d (adv q) (by simp only[nd,zA];omega) (by simp only[nd,zA];omega)]
    refine zag fun a z=>?_
    obtain⟨b,M,L⟩:=zp z
    obtain⟨rfl,_⟩:=zb1 L
    have:=zeR _ _ _ _ _ M
    rw[zA] at this
    exact j g .sumT d _ (by simp only[nd];omega) (by simp only[nd];omega)
   ·rfl
  |prodT=>
   simp only[nd] at J A
   rw[ev,ev]
   split
   ·next H=>
    have I:q.pos<C.ts.length:=za9 H (by decide)
    rw[j g .part d (adv q) (by simp only[nd,zA];omega) (by simp only[nd,zA];omega)]
    refine zag fun a z=>?_
    obtain⟨b,M,L⟩:=zp z
    obtain⟨rfl,_⟩:=zb1 L
    have:=zeR _ _ _ _ _ M
    rw[zA] at this
    exact j g .prodT d _ (by simp only[nd];omega) (by simp only[nd];omega)
   ·rfl
  |part=>
   simp only[nd] at J A
   rw[ev,ev]
   split
   ·rfl
   ·split
    ·next H=>
     have I:q.pos<C.ts.length:=za9 H (by decide)
     split
     ·rfl
     ·rw[j g .sum (d+1) (adv q) (by simp only[nd,zA];omega) (by simp only[nd,zA];omega)]
    ·rfl
theorem zcX {C:Cx} {f d:Nat} {j:NT} {q:PS} (h:nd C j q≤f):ev C f j d q=pE C j d q:=zlW f _ j d q h (Nat.le_refl _)
theorem zbf {C:Cx} {j:NT} {d:Nat} {q q':PS} (h:pE C j d q= .ok q'):q.pos≤q'.pos:=zeR _ _ _ _ _ h
theorem zeS {C:Cx} {h:NT} {d:Nat} {q:PS}:pE C h d q=ev C (nd C h q+1) h d q:=(zcX (Nat.le_succ _)).symm
theorem zis (C:Cx) (d:Nat) (q:PS):pE C .sum d q=bd (pE C .prod d q) (pE C .sumT d):=by
 rw[zeS,ev,zcX (by simp only[nd];omega)]
 refine zag fun a h=>?_
 have:=zbf h
 exact zcX (by simp only[nd];omega)
theorem zit (C:Cx) (d:Nat) (q:PS):pE C .prod d q=bd (pE C .part d q) (pE C .prodT d):=by
 rw[zeS,ev,zcX (by simp only[nd];omega)]
 refine zag fun a h=>?_
 have:=zbf h
 exact zcX (by simp only[nd];omega)
theorem zeT (C:Cx) (d:Nat) (q:PS):pE C .sumT d q=
  if isT C q.pos 4 zct||isT C q.pos 4 zbl then
   bd (bd (pE C .prod d (adv q)) fun q'=>zQ C ⟨zdu C q.pos,0,sNone,sNone,(q.ex.length:Int)-1,(q'.ex.length:Int)-1⟩ q') (pE C .sumT d)
  else .ok q:=by
 rw[zeS,ev]
 split
 ·next h=>
  have j:q.pos<C.ts.length:=by
   rw[Bool.or_eq_true] at h
   exact h.elim (fun k=>za9 k (by decide)) fun k=>za9 k (by decide)
  rw[zcX (by simp only[nd,zA];omega)]
  refine zag fun a w=>?_
  obtain⟨b,A,z⟩:=zp w
  obtain⟨rfl,_⟩:=zb1 z
  have:=zbf A
  rw[zA] at this
  exact zcX (by simp only[nd];omega)
 ·rfl
theorem zfD (C:Cx) (d:Nat) (q:PS):pE C .prodT d q=
  if isT C q.pos 4 zz then
   bd (bd (pE C .part d (adv q)) fun q'=>zQ C ⟨8,0,sNone,sNone,(q.ex.length:Int)-1,(q'.ex.length:Int)-1⟩ q') (pE C .prodT d)
  else .ok q:=by
 rw[zeS,ev]
 split
 ·next A=>
  have h:q.pos<C.ts.length:=za9 A (by decide)
  rw[zcX (by simp only[nd,zA];omega)]
  refine zag fun a j=>?_
  obtain⟨b,z,w⟩:=zp j
  obtain⟨rfl,_⟩:=zb1 w
  have:=zbf z
  rw[zA] at this
  exact zcX (by simp only[nd];omega)
 ·rfl
theorem zbM (C:Cx) (d:Nat) (q:PS):pE C .part d q=
  if (zf C q.pos).kind==2 then zQ C ⟨1,(zf C q.pos).num,sNone,sNone,0,0⟩ (adv q)
  else if isT C q.pos 4 zr then
   if 20≤d then .error (zu C q.pos) else bd (pE C .sum (d+1) (adv q)) (ze C 4 za8)
  else if C.scr&&isT C q.pos 1 zaF then zbE C zaF (adv q)
  else bd (zo C false q) fun x=>if isT C x.1.pos 4 cPoint then bd (zo C true (adv x.1)) fun y=>zbS C x.2 y.2 y.1 else zbE C x.2 x.1:=by
 rw[zeS,ev]
 split
 ·rfl
 ·split
  ·next h=>
   have j:q.pos<C.ts.length:=za9 h (by decide)
   split
   ·rfl
   ·rw[zcX (by simp only[nd,zA];omega)]
  ·rfl
theorem zeU (k:Nat):(0:Int)<10^k:=Int.pow_pos (by omega)
theorem zdJ (k:Nat):(10:Int)^(k+1)=10^k*10:=Int.pow_succ _ _
theorem zeV {a b:Nat} (h:a≤b):(10:Int)^a≤10^b:=by
 induction b with
 |zero=>
  obtain rfl:a=0:=by omega
  exact Int.le_refl _
 |succ b j=>
  by_cases e:a=b+1
  ·rw[e];exact Int.le_refl _
  ·have:=j (by omega)
   have:=zeU b
   rw[zdJ]
   omega
theorem zes (n:Int) (k:Nat):n/10^k/10=n/10^(k+1):=by
 rw[zdJ,Int.ediv_ediv_of_nonneg (Int.le_of_lt (zeU k))]
theorem zet (n:Int) (k:Nat) (h:0≤n):0≤n/10^k∧n/10^k≤n:=
 ⟨Int.ediv_nonneg h (Int.le_of_lt (zeU k)),Int.ediv_le_self _ h⟩
def dc:Nat→Int→Nat
 |0,_=>1
 |f+1,q=>if q<10 then 1 else dc f (q/10)+1
theorem zlX (f:Nat) (q:Int) (z:0≤q) (h:q<10^(f+1)):1≤dc f q∧dc f q≤f+1∧q<10^dc f q∧(dc f q=1∨10^(dc f q-1)≤q):=by
 induction f generalizing q with
 |zero=>simpa [dc] using h
 |succ f w=>
  unfold dc
  by_cases j:q<10
  ·rw[if_pos j]
   exact⟨by omega,by omega,by simpa using j,.inl rfl⟩
  ·rw[if_neg j]
   obtain⟨a,b,c,d⟩:=w (q/10) (by omega) (by rw[zdJ] at h;omega)
   refine⟨by omega,by omega,?_,.inr ?_⟩
   ·rw[zdJ];omega
   ·rw[Nat.add_sub_cancel]
    rcases d with d|d
    ·rw[d]
     show (10:Int)^1≤q
     rw[show (10:Int)^1=10 from by decide]
     omega
    ·rw[show dc f (q/10)=(dc f (q/10)-1)+1 from by omega,zdJ]
     omega
def dcn (m:Int):Nat:=dc 19 m
theorem zdv (m:Int) (j:0≤m) (h:m≤18446744073709551615):1≤dcn m∧dcn m≤20∧m<10^dcn m∧(dcn m=1∨10^(dcn m-1)≤m):=
 zlX 19 m j (by rw[show (10:Int)^(19+1)=100000000000000000000 by decide];omega)
theorem zlY (m:Int) (w:0≤m) (h:m≤18446744073709551615) (k:Nat):10≤m/10^k↔k+1<dcn m:=by
 obtain⟨a,b,c,d⟩:=zdv m w h
 rw[Int.le_ediv_iff_mul_le (zeU k),Int.mul_comm,←zdJ]
 constructor
 ·intro j
  rcases Nat.lt_or_ge (k+1) (dcn m) with e|e
  ·exact e
  ·have:=zeV e
   omega
 ·intro j
  have:=zeV (show k+1≤dcn m-1 by omega)
  omega
theorem ziu (m:Int) (w:1≤m) (h:m≤18446744073709551615) (k:Nat):m/10^k≠0↔k<dcn m:=by
 obtain⟨a,b,c,d⟩:=zdv m (by omega) h
 have z:=zet m k (by omega)
 have:m/10^k≠0↔1≤m/10^k:=by omega
 rw[this,Int.le_ediv_iff_mul_le (zeU k),Int.one_mul]
 constructor
 ·intro j
  rcases Nat.lt_or_ge k (dcn m) with e|e
  ·exact e
  ·have:=zeV e
   omega
 ·intro j
  have:=zeV (show k≤dcn m-1 by omega)
  rcases d with d|d
  ·obtain rfl:k=0:=by omega
   simpa using w
  ·omega
def dgk (m:Int):Nat→List Int
 |0=>[]
 |k+1=>(48+m/10^k%10)::dgk m k
theorem zc9 (m:Int) (k:Nat):(dgk m k).length=k:=by
 induction k with
 |zero=>rfl
 |succ k h=>simp[dgk,h]
theorem ziv (m:Int) (c k:Nat) (h:k<c):(dgk m c)[c-1-k]? =some (48+m/10^k%10):=by
 induction c with
 |zero=>omega
 |succ c j=>
  by_cases e:k=c
  ·subst e
   rw[show k+1-1-k=0 from by omega]
   rfl
  ·rw[show c+1-1-k=(c-1-k)+1 from by omega,dgk,List.getElem?_cons_succ]
   exact j (by omega)
def zfE (n:Int):Int:=if n<0 then-n else n
def zbU (n:Int):List Int:=(if n<0 then [45] else [])++dgk (zfE n) (dcn (zfE n))
theorem zgR {n:Int} (h:n<0):zbU n=45::dgk (-n) (dcn (-n)):=by simp[zbU,h,zfE]
theorem zgS {n:Int} (h:0≤n):zbU n=dgk n (dcn n):=by
 have: ¬n<0:=by omega
 simp[zbU,this,zfE]
theorem zlZ (L:List Int):zcH L L.length=L:=by simp[zcH]
theorem zma (x:Int) (L:List Int):(zcH (x::L) L.length).set 0 x=x::L:=by
 simp[zcH]
theorem zmb (p:List Int) (m:Int) (c k:Nat) (h:k<c):(p++dgk m c)[(p++dgk m c).length-1-k]? =some (48+m/10^k%10):=by
 rw[List.length_append,zc9,List.getElem?_append_right (by omega),show p.length+c-1-k-p.length=c-1-k from by omega]
 exact ziv m c k h
structure Md where
 rq:List ByteArray
 im:List Im
 ep:List Ep
 st:List Sm
 ex:List Ex
def zeu (q:PS):Md:=⟨q.rq,q.im,q.ep++q.la,q.st,q.ex⟩
def zP (k:Int):Bool:=k==6||k==7
def zaa (k:Int):Bool:=k==6||k==7||k==8
def zj:Ex:=⟨0,0,sNone,sNone,0,0⟩
abbrev cParens:ByteArray:={data:=#[40,41]}
abbrev tPlus:ByteArray:={data:=#[32,43,32]}
abbrev tMinus:ByteArray:={data:=#[32,45,32]}
abbrev tStar:ByteArray:={data:=#[32,42,32]}
def zG (b:Bool) (t:ByteArray):ByteArray:=if b then zr++t++za8 else t
def prE (ex:List Ex):Nat→Nat→ByteArray
 |0,_=>sNone
 |f+1,i=>
  let x:=ex.getD i zj
  if x.kind==1 then strOfNums (zbU x.num)
  else if x.kind==2 then x.name
  else if x.kind==3 then x.name++cParens
  else if x.kind==4 then x.name++cPoint++x.field
  else if x.kind==5 then x.name++cPoint++x.field++cParens
  else if x.kind==6 then prE ex f x.l.toNat++tPlus++zG (zP (ex.getD x.r.toNat zj).kind) (prE ex f x.r.toNat)
  else if x.kind==7 then prE ex f x.l.toNat++tMinus++zG (zP (ex.getD x.r.toNat zj).kind) (prE ex f x.r.toNat)
  else if x.kind==8 then zG (zP (ex.getD x.l.toNat zj).kind) (prE ex f x.l.toNat)++tStar++zG (zaa (ex.getD x.r.toNat zj).kind) (prE ex f x.r.toNat)
  else sNone
def prX (ex:List Ex) (i:Nat):ByteArray:=prE ex (i+1) i
def zb2 (ex:List Ex):Prop:=∀(i:Nat) (x:Ex),ex[i]? =some x→zaa x.kind=true→0≤x.l∧x.l<(i:Int)∧0≤x.r∧x.r<(i:Int)
theorem zbF {k:Int} (h:(k==6)=true∨(k==7)=true∨(k==8)=true):zaa k=true:=by
 unfold zaa
 rcases h with h|h|h<;>simp[h]
theorem zfF {ex:List Ex} (h:zb2 ex) {i:Nat} (j:zaa (ex.getD i zj).kind=true):0≤(ex.getD i zj).l∧(ex.getD i zj).l<(i:Int)∧0≤(ex.getD i zj).r∧(ex.getD i zj).r<(i:Int):=by
 by_cases w:i<ex.length
 ·have e:ex.getD i zj=ex[i]:=by simp[List.getD,List.getElem?_eq_getElem w]
  rw[e] at j ⊢
  exact h i _ (List.getElem?_eq_getElem w) j
 ·have e:ex.getD i zj=zj:=by simp[List.getD,List.getElem?_eq_none (by omega:ex.length≤i)]
  rw[e] at j
  exact absurd j (by decide)
theorem ziw {ex:List Ex} (h:zb2 ex) (f:Nat): ∀(g i:Nat),i<f→i<g→prE ex f i=prE ex g i:=by
 induction f with
 |zero=>intro g i O;omega
 |succ f I=>
  intro g i N M
  obtain⟨g,rfl⟩: ∃L,g=L+1:=⟨g-1,by omega⟩
  rw[prE,prE]
  have J:=fun w=>zfF h (i:=i) w
  generalize ex.getD i zj=x at J ⊢
  have j: ∀w:zaa x.kind=true,prE ex f x.l.toNat=prE ex g x.l.toNat∧prE ex f x.r.toNat=prE ex g x.r.toNat:=fun w=>by
   have:=J w
   exact⟨I g _ (by omega) (by omega),I g _ (by omega) (by omega)⟩
  by_cases z:(x.kind==6)=true
  ·rw[(j (zbF (.inl z))).1,(j (zbF (.inl z))).2]
  ·by_cases H:(x.kind==7)=true
   ·rw[(j (zbF (.inr (.inl H)))).1,(j (zbF (.inr (.inl H)))).2]
   ·by_cases A:(x.kind==8)=true
    ·rw[(j (zbF (.inr (.inr A)))).1,(j (zbF (.inr (.inr A)))).2]
    ·simp only[z,H,A,Bool.false_eq_true,↓reduceIte]
theorem zgT {ex:List Ex} (h:zb2 ex) (i:Nat):prX ex i=
  if (ex.getD i zj).kind==1 then strOfNums (zbU (ex.getD i zj).num)
  else if (ex.getD i zj).kind==2 then (ex.getD i zj).name
  else if (ex.getD i zj).kind==3 then (ex.getD i zj).name++cParens
  else if (ex.getD i zj).kind==4 then (ex.getD i zj).name++cPoint++(ex.getD i zj).field
  else if (ex.getD i zj).kind==5 then (ex.getD i zj).name++cPoint++(ex.getD i zj).field++cParens
  else if (ex.getD i zj).kind==6 then prX ex (ex.getD i zj).l.toNat++tPlus++zG (zP (ex.getD (ex.getD i zj).r.toNat zj).kind) (prX ex (ex.getD i zj).r.toNat)
  else if (ex.getD i zj).kind==7 then prX ex (ex.getD i zj).l.toNat++tMinus++zG (zP (ex.getD (ex.getD i zj).r.toNat zj).kind) (prX ex (ex.getD i zj).r.toNat)
  else if (ex.getD i zj).kind==8 then zG (zP (ex.getD (ex.getD i zj).l.toNat zj).kind) (prX ex (ex.getD i zj).l.toNat)++tStar++zG (zaa (ex.getD (ex.getD i zj).r.toNat zj).kind) (prX ex (ex.getD i zj).r.toNat)
  else sNone:=by
 rw[prX,prE]
 have I:=fun w=>zfF h (i:=i) w
 generalize ex.getD i zj=x at I ⊢
 have j: ∀w:zaa x.kind=true,prE ex i x.l.toNat=prX ex x.l.toNat∧prE ex i x.r.toNat=prX ex x.r.toNat:=fun w=>by
  have:=I w
  exact⟨ziw h _ _ _ (by omega) (by omega),ziw h _ _ _ (by omega) (by omega)⟩
 by_cases z:(x.kind==6)=true
 ·rw[(j (zbF (.inl z))).1,(j (zbF (.inl z))).2]
 ·by_cases H:(x.kind==7)=true
  ·rw[(j (zbF (.inr (.inl H)))).1,(j (zbF (.inr (.inl H)))).2]
  ·by_cases A:(x.kind==8)=true
   ·rw[(j (zbF (.inr (.inr A)))).1,(j (zbF (.inr (.inr A)))).2]
   ·simp only[z,H,A,Bool.false_eq_true,↓reduceIte]
def zat (ex:List Ex) (k:Int):Nat:=(ex.map fun x=>if zaa x.kind then (if x.l==k then 1 else 0)+(if x.r==k then 1 else 0) else 0).sum
def zaN (st:List Sm) (k:Int):Nat:=(st.map fun s=>if s.expr==k then 1 else 0).sum
structure Tree (m:Md):Prop where
 ahead:zb2 m.ex
 stm: ∀s∈m.st,0≤s.expr∧s.expr<(m.ex.length:Int)
 once: ∀k,k<m.ex.length→zat m.ex (k:Int)+zaN m.st (k:Int)=1
def sm (k:Nat) (f:Nat→Nat):Nat:=((List.range k).map f).sum
theorem zmc (f:Nat→Nat):sm 0 f=0:=rfl
theorem zd8 (k:Nat) (f:Nat→Nat):sm (k+1) f=sm k f+f k:=by
 unfold sm
 rw[List.range_succ,List.map_append,List.sum_append]
 simp
theorem zgU (k:Nat) (f g:Nat→Nat):sm k (fun j=>f j+g j)=sm k f+sm k g:=by
 induction k with
 |zero=>rfl
 |succ k h=>rw[zd8,zd8,zd8,h];omega
theorem zdK {k:Nat} {f g:Nat→Nat} (h: ∀j,j<k→f j=g j):sm k f=sm k g:=by
 induction k with
 |zero=>rfl
 |succ k w=>rw[zd8,zd8,w fun j z=>h j (by omega),h k (by omega)]
theorem zgV (k:Nat):sm k (fun _=>0)=0:=by
 induction k with
 |zero=>rfl
 |succ k h=>rw[zd8,h]
theorem zgW (f:Nat→Nat) (k:Nat) (l:Int) (H:0≤l) (h:l<(k:Int)):sm k (fun j=>(if l==(j:Int) then 1 else 0)*f j)=f l.toNat:=by
 induction k with
 |zero=>omega
 |succ k w=>
  rw[zd8]
  by_cases e:l=(k:Int)
  ·have z:sm k (fun j=>(if l==(j:Int) then 1 else 0)*f j)=0:=(zdK (g:=fun _=>0) fun j A=>by rw[if_neg (by rw[beq_iff_eq];omega)];omega).trans (zgV k)
   rw[z,if_pos (by rw[beq_iff_eq];exact e),show l.toNat=k from by omega]
   omega
  ·rw[w (by omega),if_neg (by rw[beq_iff_eq];exact e)]
   omega
def u1 (x:Ex) (k:Int):Nat:=if zaa x.kind then (if x.l==k then 1 else 0)+(if x.r==k then 1 else 0) else 0
theorem zix {ex:List Ex} {i:Nat} (h:i<ex.length) (k:Int):zat (ex.drop i) k=u1 ex[i] k+zat (ex.drop (i+1)) k:=by
 rw[List.drop_eq_getElem_cons h,zat,List.map_cons,List.sum_cons]
 rfl
theorem zmd {ex:List Ex} {i:Nat} (h:ex.length≤i) (k:Int):zat (ex.drop i) k=0:=by rw[List.drop_eq_nil_of_le h];rfl
theorem zme {ex:List Ex} (h:zb2 ex) (k:Nat) (H:k<ex.length): ∀d j,j+d=k+1→zat (ex.drop j) (k:Int)=zat (ex.drop (k+1)) (k:Int):=by
 intro d
 induction d with
 |zero=>intro j w;rw[show j=k+1 from by omega]
 |succ d z=>
  intro j w
  rw[zix (by omega),z (j+1) (by omega)]
  have:u1 ex[j] (k:Int)=0:=by
   unfold u1
   split
   ·next A=>
    have:=h j _ (List.getElem?_eq_getElem (by omega)) A
    rw[if_neg (by rw[beq_iff_eq];omega),if_neg (by rw[beq_iff_eq];omega)]
   ·rfl
  omega
def wt (ex:List Ex) (i:Nat):Nat:=(prX ex i).size
def zdL (x:Ex):Nat:=x.name.size+x.field.size+40
theorem zfG (b:Bool) (t:ByteArray):(zG b t).size≤t.size+2:=by
 unfold zG
 split
 ·rw[ByteArray.size_append,ByteArray.size_append]
  show 1+t.size+1≤t.size+2
  omega
 ·omega
theorem zmf (n:Int) (w: -9223372036854775808≤n) (j:n≤9223372036854775807):(strOfNums (zbU n)).size≤21:=by
 rw[strOfNums_size]
 by_cases h:n<0
 ·rw[zgR h,List.length_cons,zc9]
  have:=(zdv (-n) (by omega) (by omega)).2.1
  omega
 ·rw[zgS (by omega),zc9]
  have:=(zdv n (by omega) (by omega)).2.1
  omega
theorem zmg {ex:List Ex} (h:zb2 ex) (i:Nat) (A: -9223372036854775808≤(ex.getD i zj).num∧(ex.getD i zj).num≤9223372036854775807):
  wt ex i≤zdL (ex.getD i zj)+if zaa (ex.getD i zj).kind then wt ex (ex.getD i zj).l.toNat+wt ex (ex.getD i zj).r.toNat else 0:=by
 unfold wt
 rw[zgT h]
 generalize ex.getD i zj=x at A ⊢
 unfold zdL
 by_cases H:(x.kind==1)=true
 ·rw[if_pos H]
  have:=zmf x.num A.1 A.2
  omega
 ·rw[if_neg H]
  by_cases I:(x.kind==2)=true
  ·rw[if_pos I];omega
  ·rw[if_neg I]
   by_cases J:(x.kind==3)=true
   ·rw[if_pos J,ByteArray.size_append]
    have:cParens.size=2:=rfl
    omega
   ·rw[if_neg J]
    by_cases M:(x.kind==4)=true
    ·rw[if_pos M,ByteArray.size_append,ByteArray.size_append]
     have:cPoint.size=1:=rfl
     omega
    ·rw[if_neg M]
     by_cases L:(x.kind==5)=true
     ·rw[if_pos L,ByteArray.size_append,ByteArray.size_append,ByteArray.size_append]
      have:cPoint.size=1:=rfl
      have:cParens.size=2:=rfl
      omega
     ·rw[if_neg L]
      by_cases j:(x.kind==6)=true
      ·rw[if_pos j,if_pos (zbF (.inl j)),ByteArray.size_append,ByteArray.size_append]
       have:=zfG (zP (ex.getD x.r.toNat zj).kind) (prX ex x.r.toNat)
       have:tPlus.size=3:=rfl
       omega
      ·rw[if_neg j]
       by_cases z:(x.kind==7)=true
       ·rw[if_pos z,if_pos (zbF (.inr (.inl z))),ByteArray.size_append,ByteArray.size_append]
        have:=zfG (zP (ex.getD x.r.toNat zj).kind) (prX ex x.r.toNat)
        have:tMinus.size=3:=rfl
        omega
       ·rw[if_neg z]
        by_cases w:(x.kind==8)=true
        ·rw[if_pos w,if_pos (zbF (.inr (.inr w))),ByteArray.size_append,ByteArray.size_append]
         have:=zfG (zP (ex.getD x.l.toNat zj).kind) (prX ex x.l.toNat)
         have:=zfG (zaa (ex.getD x.r.toNat zj).kind) (prX ex x.r.toNat)
         have:tStar.size=3:=rfl
         omega
        ·rw[if_neg w]
         show 0≤_
         omega
def zaR (ex:List Ex):Prop:=∀x∈ex,-9223372036854775808≤x.num∧x.num≤9223372036854775807
theorem zdM {ex:List Ex} {i:Nat} (h:i<ex.length):ex.getD i zj=ex[i]:=by simp[List.getD,List.getElem?_eq_getElem h]
theorem zmh (f:Nat→Nat) (n:Nat): ∀w:List Sm,(∀s∈w,0≤s.expr∧s.expr<(n:Int))→(w.map fun s=>f s.expr.toNat).sum=sm n (fun j=>zaN w (j:Int)*f j):=by
 intro w
 induction w with
 |nil=>intro _;show 0=_;rw[←zgV n];exact zdK fun j _=>by simp[zaN]
 |cons s w A=>
  intro h
  rw[List.map_cons,List.sum_cons,A fun x H=>h x (List.mem_cons_of_mem _ H)]
  have z:=h s List.mem_cons_self
  rw[←zgW f n s.expr z.1 z.2,←zgU]
  refine zdK fun j _=>?_
  simp only[zaN,List.map_cons,List.sum_cons]
  rw[Nat.add_mul]
theorem zmi {m:Md} (t:Tree m) (N:zaR m.ex): ∀d k,k+d=m.ex.length→
  (m.st.map fun s=>wt m.ex s.expr.toNat).sum≤sm k (fun j=>(zaN m.st (j:Int)+zat (m.ex.drop k) (j:Int))*wt m.ex j)+((m.ex.drop k).map zdL).sum:=by
 intro d
 induction d with
 |zero=>
  intro k A
  have:k=m.ex.length:=by omega
  subst this
  rw[zmh _ _ _ t.stm]
  refine Nat.le_trans (Nat.le_of_eq ?_) (Nat.le_add_right _ _)
  refine zdK fun j _=>?_
  rw[zmd (Nat.le_refl _),Nat.add_zero]
 |succ d H=>
  intro k A
  have h:k<m.ex.length:=by omega
  refine Nat.le_trans (H (k+1) (by omega)) ?_
  have L:zaN m.st (k:Int)+zat (m.ex.drop (k+1)) (k:Int)=1:=by
   have:=t.once k h
   rw[←zme t.ahead k h (k+1) 0 (by omega),List.drop_zero]
   omega
  rw[zd8,L,Nat.one_mul,List.drop_eq_getElem_cons h,List.map_cons,List.sum_cons]
  have I:=zmg t.ahead k (by rw[zdM h];exact N _ (List.getElem_mem h))
  rw[zdM h] at I
  have M:sm k (fun j=>(zaN m.st (j:Int)+zat (m.ex.drop k) (j:Int))*wt m.ex j)=sm k (fun j=>(zaN m.st (j:Int)+zat (m.ex.drop (k+1)) (j:Int))*wt m.ex j)+if zaa m.ex[k].kind then wt m.ex m.ex[k].l.toNat+wt m.ex m.ex[k].r.toNat else 0:=by
   have e: ∀j:Nat,(zaN m.st (j:Int)+zat (m.ex.drop k) (j:Int))*wt m.ex j=(zaN m.st (j:Int)+zat (m.ex.drop (k+1)) (j:Int))*wt m.ex j+u1 m.ex[k] (j:Int)*wt m.ex j:=fun j=>by
    rw[zix h,←Nat.add_mul]
    congr 1
    omega
   rw[zdK fun j _=>e j,zgU]
   congr 1
   split
   ·next z=>
    have w:=t.ahead k _ (List.getElem?_eq_getElem h) z
    rw[←zgW (wt m.ex) k _ w.1 w.2.1,←zgW (wt m.ex) k _ w.2.2.1 w.2.2.2,←zgU]
    refine zdK fun j _=>?_
    rw[u1,if_pos z,Nat.add_mul]
   ·next z=>
    rw[←zgV k]
    refine zdK fun j _=>?_
    rw[u1,if_neg z,Nat.zero_mul]
  have J:zat (m.ex[k]::m.ex.drop (k+1))=zat (m.ex.drop k):=by rw[←List.drop_eq_getElem_cons h]
  rw[J,M]
  omega
theorem zmj {m:Md} (t:Tree m) (h:zaR m.ex):(m.st.map fun s=>wt m.ex s.expr.toNat).sum≤(m.ex.map zdL).sum:=by
 have:=zmi t h m.ex.length 0 (by omega)
 rw[zmc,Nat.zero_add,List.drop_zero] at this
 exact this
end Go.Proofs.YtjdddblpfbmpaaaGreat
