/-
  Plain facts of numbers and bytes,and small facts on what a call hands back: no program is spoken of.
  Two small facts: a block more,and a fact laid by. No program is spoken of.
  Strings made of byte slices: what 'string(b)' tells where b is a row of the call's own; rows that are filled place by place; what strings are as lists of numbers. No program is spoken of.
  Plain facts on texts as lists of numbers. No program is spoken of.
  Tokens of a text,as plain relations: where a run of bytes ends,which token stands at a place,what is passed over,and that each of these is one alone. No program is spoken of.
  Programs,as plain functions: what a row of tokens means. No program is spoken of.
  Plain facts on decimal digits. No program is spoken of.
  Texts of programs,as plain functions. No program is spoken of.
  An expression that is used once: the texts of all statements' expressions are together no longer than what all expressions cost. No program is spoken of.
-/
import Derived.WalkKit
import Derived.PlainAid
import Derived.Laws.BytesArg
import Derived.Lib.Strings
namespace Go.Proofs.YtjdddblpfbmpaaaGreat
open Go.RowKit Go.PlainAid
def inB (a b c:Int):Bool:=decide (b≤a)&&decide (a≤c)
theorem zh {a b:Bool} (h:a=b):Ending.returned (.bool a)= .returned (.bool b):=by rw[h]
theorem zeu {k:IntKind} {a b:Int} (h:a=b):Ending.returned (.int k a)= .returned (.int k b):=by rw[h]
theorem zar {a b:ByteArray} (h:a=b):Ending.returned (.string a)= .returned (.string b):=by rw[h]
theorem zdE {a b:Int} {c d:Bool} (h:a=b) (k:c=d):Ending.returned (.tuple #[.int .i64 a,.bool c])= .returned (.tuple #[.int .i64 b,.bool d]):=by rw[h,k]
def ziE (s:ByteArray):Nat→Int
 |0=>0
 |k+1=>ziE s k*256+bt s k
def zmq (s:ByteArray) (n:Int):Bool:=inB n 1 7&&decide (n≤s.size)
def rfV (s:ByteArray) (n:Int):Int:=if zmq s n then ziE s n.toNat else 0
abbrev sNone:ByteArray:={data:=#[]}
theorem zl (w:World) (o:Obj):(w.alloc o).heap.size=w.heap.size+1:=by show (w.heap.push _).size=_;simp
theorem zc {p:Prop} (h:p):Hid p:=h
def zbz (w:World) (base:Nat) (e:TypeId) (v:Value) (n:Nat) (xs:List Int):Prop:=w.ownsRow base e 1 v n (xs.map (Value.int .u8))
theorem zhc {P:Program} {w:World} {src dst e:TypeId} (M:P.underlying src=some (.slice e)) (L:P.underlying e=some (.int .u8)) (J:P.underlying dst=some .string)
  {j n:Nat} {v:Value} {xs:List Int} (h:zbz w j e v n xs):(convert src dst v).run P w= .ok (.string (strOfNums xs)) w:=by
 obtain⟨A,X⟩:=h
 rw[List.length_map,Nat.mul_one] at A
 rcases X with ⟨rfl,rfl⟩|⟨g,q,H,rfl,V,O,Y,N,I,U⟩
 ·obtain rfl:=List.length_eq_zero_iff.1 A
  exact run_convert_bytes_nil w src e M L 0 0 dst J
 ·refine run_convert_bytes_arg w src e M L g 0 n q xs A (fun i Z=>?_) dst J
  have z:w.ownsRow j e 1 (.slice (some ⟨g,0,none⟩) n q) n (xs.map (Value.int .u8)):=⟨by simpa using A,.inr ⟨g,q,H,rfl,V,O,Y,N,I,U⟩⟩
  have:=z.cellAt i (by omega)
  rw[Nat.zero_add,this]
  simp[List.getD,List.getElem?_eq_getElem (show i<xs.length by omega)]
theorem zhd {P:Program} {src dst e:TypeId} (z:P.underlying src=some (.slice e)) (q:P.underlying e=some (.int .u8)) (j:P.underlying dst=some .string)
  (w:World) (x:Int):(convert src dst (.slice (some ⟨w.heap.size,0,none⟩) 1 1)).run P (w.alloc (.cells #[.int .u8 x] e))= .ok (.string (strOfNums [x])) (w.alloc (.cells #[.int .u8 x] e)):=by
 refine run_convert_bytes_arg _ src e z q w.heap.size 0 1 1 [x] rfl (fun i A=>?_) dst j
 obtain rfl:i=0:=by omega
 rw[World.cell?_alloc_new]
 rfl
theorem zmr (xs j:List Int):strOfNums xs++strOfNums j=strOfNums (xs++j):=by
 unfold strOfNums
 rw[ByteArray.mk_append_mk,List.map_append]
theorem zfU (x:Int) (j:List Int):strOfNums [x]++strOfNums j=strOfNums (x::j):=zmr [x] j
def zuH (L:List Int) (k:Nat):List Int:=L.take k++List.replicate (L.length-k) 0
def zcK (L:List Int) (k:Nat):List Int:=List.replicate (L.length-k) 0++L.drop (L.length-k)
theorem ziF (L:List Int):zcK L 0=List.replicate L.length 0:=by simp[zcK]
theorem ziG (L:List Int) (k:Nat) (x:Int) (h:k<L.length) (q:L[L.length-1-k]? =some x):(zcK L k).set (L.length-1-k) x=zcK L (k+1):=by
 have A:List.replicate (L.length-k) (0:Int)=List.replicate (L.length-(k+1)) 0++[0]:=by
  rw[show L.length-k=(L.length-(k+1))+1 from by omega,List.replicate_succ']
 have z:L.drop (L.length-(k+1))=x::L.drop (L.length-k):=by
  have e:L.length-(k+1)=L.length-1-k:=by omega
  rw[e]
  have j:L.length-1-k<L.length:=by omega
  rw[List.drop_eq_getElem_cons j]
  rw[List.getElem?_eq_getElem j] at q
  simp only[Option.some.injEq] at q
  rw[q,show L.length-1-k+1=L.length-k from by omega]
 unfold zcK
 rw[A,z,List.append_assoc,List.set_append_right _ _ (by simp;omega),List.length_replicate,show L.length-1-k-(L.length-(k+1))=0 from by omega]
 rfl
theorem zhe {w:World} {B g n q:Nat} {e:TypeId} {L:List Int} (h:zbz w B e (.slice (some ⟨g,0,none⟩) n q) n L) (j:Nat) (x:Int):
  zbz (w.setCell ⟨g,j,none⟩ (.int .u8 x)) B e (.slice (some ⟨g,0,none⟩) n q) n (L.set j x):=by
 unfold zbz at h ⊢
 rw[List.map_set]
 exact (h.stored j (.int .u8 x)).1
theorem zhf {w:World} {B g n q:Nat} {e:TypeId} {L:List Int} (h:zbz w B e (.slice (some ⟨g,0,none⟩) n q) n L) (j:Nat) (A:j<n): ∃v,w.cell? ⟨g,j,none⟩=some v:=by
 unfold zbz at h
 have z:=h.1
 rw[List.length_map,Nat.mul_one] at z
 rw[h.cellAt j (by omega)]
 simp[List.getElem?_eq_getElem (show j<L.length by omega)]
theorem zhg {w:World} {B g n q:Nat} {e:TypeId} {L:List Int} (h:zbz w B e (.slice (some ⟨g,0,none⟩) n q) n L) (j:Nat):w.frozen? ⟨g,j,none⟩=false:=World.ownsRow.frozenAt h j
def dl (n:Int):Nat→List Int
 |0=>[]
 |k+1=>(n/2^(8*k)%256)::dl n k
def zms (n m:Int):Bool:=inB m 1 7&&decide (0≤n)&&decide (n/2^(8*m.toNat)=0)
def fxL (n m:Int):List Int:=if zms n m then dl n m.toNat else []
def bsl (s:ByteArray):Nat→Nat→List Int
 |_,0=>[]
 |i,m+1=>bt s i::bsl s (i+1) m
theorem zmt (s:ByteArray) (i m:Nat):(bsl s i m).length=m:=by
 induction m generalizing i with
 |zero=>rfl
 |succ m j=>simp[bsl,j]
theorem zmu (s:ByteArray) (i:Nat) (h:i<s.data.toList.length):UInt8.ofNat (bt s i).toNat=s.data.toList[i]:=by
 have j:i<s.size:=by simpa using h
 rw[←get_bt s i j,Int.toNat_natCast,UInt8.ofNat_toNat]
 rfl
theorem zmv (s:ByteArray) (i m:Nat) (h:i+m≤s.size):(bsl s i m).map (fun n=>UInt8.ofNat n.toNat)=(s.data.toList.drop i).take m:=by
 induction m generalizing i with
 |zero=>simp[bsl]
 |succ m q=>
  have j:i<s.data.toList.length:=by rw[Array.length_toList];exact Nat.lt_of_lt_of_le (show i<i+(m+1) by omega) h
  rw[bsl,List.map_cons,q (i+1) (by omega),List.drop_eq_getElem_cons j,List.take_succ_cons,zmu s i j]
theorem ziH (s:ByteArray) (k:Nat) (h:k≤s.size):s.extract 0 k=strOfNums (bsl s 0 k):=by
 have e:(s.extract 0 k).data.toList=(strOfNums (bsl s 0 k)).data.toList:=by
  rw[Lib.extract_data,strOfNums_data,zmv s 0 k (by omega),Nat.sub_zero]
 have j:(s.extract 0 k).data=(strOfNums (bsl s 0 k)).data:=by
  rw[←Array.toArray_toList (xs:=(s.extract 0 k).data),e,Array.toArray_toList]
 have q: ∀a b:ByteArray,a.data=b.data→a=b:=by rintro⟨a⟩ ⟨b⟩ h;cases h;rfl
 exact q _ _ j
theorem zhh {a b:ByteArray} (h:a.data.toList=b.data.toList):a=b:=by
 obtain⟨⟨a⟩⟩:=a
 obtain⟨⟨b⟩⟩:=b
 simp only at h
 rw[h]
theorem zfV (a b:ByteArray):(a.toList==b.toList)=true↔a=b:=by
 rw[beq_iff_eq,Lib.toList_data,Lib.toList_data]
 exact⟨zhh,fun h=>by rw[h]⟩
theorem zmw (s:ByteArray):s=strOfNums (bsl s 0 s.size):=by
 rw[←ziH s s.size (Nat.le_refl _)]
 refine zhh ?_
 rw[Lib.extract_data,List.drop_zero,Nat.sub_zero,List.take_of_length_le]
 rw[Array.length_toList]
 exact Nat.le_refl _
theorem zdy (s:ByteArray) (k:Nat):bt s k=(s.data.toList.map (fun b=>(b.toNat:Int))).getD k 0:=by
 unfold bt
 by_cases h:k<s.size
 ·rw[dif_pos h]
  have j:k<s.data.toList.length:=by rw[Array.length_toList];exact h
  simp only[List.getD,List.getElem?_map,List.getElem?_eq_getElem j,Option.map_some,Option.getD_some]
  rfl
 ·rw[dif_neg h]
  have j:s.data.toList.length≤k:=by rw[Array.length_toList];exact Nat.le_of_not_lt h
  simp[List.getD,List.getElem?_eq_none j]
def za3 (c:Int) (scr:Bool):Bool:=decide (97≤c∧c≤122)||decide (65≤c∧c≤90)||decide (c=95)||(scr&&decide (c=36))
def zK (c:Int):Bool:=decide (48≤c∧c≤57)
def zL (scr:Bool) (c:Int):Bool:=za3 c scr||zK c
def zb0 (c:Int):Bool:=decide (c≠10)
abbrev zc6 (c:Int):Prop:=c=9∨c=10∨c=13∨c=32
abbrev zbn (c:Int):Prop:=c=123∨c=125∨c=40∨c=41∨c=44∨c=59∨c=61∨c=46∨c=42∨c=43∨c=45
abbrev zbD (c:Int):Prop:=32≤c∧c≤126∧c≠34∧c≠92
theorem zdR {c:Int} {j:Bool}:za3 c j=true↔(97≤c∧c≤122)∨(65≤c∧c≤90)∨c=95∨(j=true∧c=36):=by simp[za3,or_assoc]
theorem zc7 {c:Int}:zK c=true↔48≤c∧c≤57:=by simp[zK]
def za4 (p:Int→Bool) (s:ByteArray) (a e:Nat):Prop:=a≤e∧e≤s.size∧(∀j,a≤j→j<e→p (bt s j)=true)∧(e<s.size→p (bt s e)=false)
theorem zeZ {p:Int→Bool} {s:ByteArray} {a j q:Nat} (L:za4 p s a j) (I:za4 p s a q):j=q:=by
 obtain⟨H,O,N,M⟩:=L
 obtain⟨J,U,z,A⟩:=I
 rcases Nat.lt_trichotomy j q with h|h|h
 ·have:=z j H h
  rw[M (by omega)] at this
  cases this
 ·exact h
 ·have:=N q J h
  rw[A (by omega)] at this
  cases this
def zbE (s:ByteArray) (a:Nat):Nat→Int
 |0=>0
 |k+1=>zbE s a k*10+(bt s (a+k)-48)
def zaV (s:ByteArray) (a:Nat) (scr:Bool) (n:Int) (e:Nat):Prop:=
 za4 zK s a e∧a<e∧(e=a+1∨bt s a≠48)∧n=zbE s a (e-a)∧n≤1000000∧(e<s.size→za3 (bt s e) scr=false)
theorem zmx {s:ByteArray} {a:Nat} {j:Bool} {A I:Int} {q J:Nat} (H:zaV s a j A q) (z:zaV s a j I J):A=I∧q=J:=by
 have L:=zeZ H.1 z.1
 subst L
 exact⟨H.2.2.2.1.trans z.2.2.2.1.symm,rfl⟩
theorem zhi {s:ByteArray} {a:Nat} (k m:Nat) (q: ∀j,j<m→48≤bt s (a+j)) (L:k≤m):0≤zbE s a k∧zbE s a k≤zbE s a m:=by
 have J: ∀m,(∀j,j<m→48≤bt s (a+j))→0≤zbE s a m:=by
  intro m
  induction m with
  |zero=>intro _;exact Int.le_refl _
  |succ m z=>
   intro h
   have A:=z (fun j H=>h j (by omega))
   have I:=h m (by omega)
   show 0≤zbE s a m*10+(bt s (a+m)-48)
   omega
 induction m with
 |zero=>
  obtain rfl:k=0:=by omega
  exact⟨Int.le_refl _,Int.le_refl _⟩
 |succ m z=>
  by_cases e:k=m+1
  ·subst e
   exact⟨J _ q,Int.le_refl _⟩
  ·obtain⟨A,I⟩:=z (fun j H=>q j (by omega)) (by omega)
   have M:=q m (by omega)
   refine⟨A,?_⟩
   show _≤zbE s a m*10+(bt s (a+m)-48)
   omega
def zb1 (s:ByteArray) (a e:Nat):Prop:=a+2≤e∧e≤s.size∧e≤a+42∧bt s (e-1)=34∧∀j,a<j→j+1<e→zbD (bt s j)
theorem zmy {s:ByteArray} {a j q:Nat} (J:zb1 s a j) (I:zb1 s a q):j=q:=by
 obtain⟨O,N,X,L,H⟩:=J
 obtain⟨U,V,M,A,z⟩:=I
 rcases Nat.lt_trichotomy j q with h|h|h
 ·exact absurd L (z (j-1) (by omega) (by omega)).2.2.1
 ·exact h
 ·exact absurd A (H (q-1) (by omega) (by omega)).2.2.1
structure Tk where
 kind:Int
 text:ByteArray
 num:Int
 pos:Nat
def Tok (s:ByteArray) (scr:Bool) (a:Nat) (t:Tk) (e:Nat):Prop:=
 (za3 (bt s a) scr=true∧za4 (zL scr) s a e∧t=⟨1,s.extract a e,0,a⟩)∨(∃n,zK (bt s a)=true∧zaV s a scr n e∧t=⟨2,{data:=#[]},n,a⟩)∨(bt s a=34∧zb1 s a e∧t=⟨3,s.extract (a+1) (e-1),0,a⟩)∨(zbn (bt s a)∧t=⟨4,s.extract a (a+1),0,a⟩∧e=a+1)
theorem Tok.name {s:ByteArray} {j:Bool} {a e:Nat} (h:za3 (bt s a) j=true) (q:za4 (zL j) s a e):Tok s j a ⟨1,s.extract a e,0,a⟩ e:=.inl ⟨h,q,rfl⟩
theorem Tok.num {s:ByteArray} {j:Bool} {a e:Nat} {n:Int} (h:zK (bt s a)=true) (q:zaV s a j n e):Tok s j a ⟨2,{data:=#[]},n,a⟩ e:=.inr (.inl ⟨n,h,q,rfl⟩)
theorem Tok.str {s:ByteArray} {j:Bool} {a e:Nat} (h:bt s a=34) (q:zb1 s a e):Tok s j a ⟨3,s.extract (a+1) (e-1),0,a⟩ e:=.inr (.inr (.inl ⟨h,q,rfl⟩))
theorem Tok.sign {s:ByteArray} {j:Bool} {a:Nat} (h:zbn (bt s a)):Tok s j a ⟨4,s.extract a (a+1),0,a⟩ (a+1):=.inr (.inr (.inr ⟨h,rfl,rfl⟩))
theorem Tok.elim {s:ByteArray} {scr:Bool} {a:Nat} {motive:(t:Tk)→(e:Nat)→Tok s scr a t e→Prop} {t:Tk} {e:Nat} (h:Tok s scr a t e) (name: ∀{e:Nat} (h:za3 (bt s a) scr=true) (he:za4 (zL scr) s a e),motive _ e (.name h he)) (num: ∀{n:Int} {e:Nat} (h:zK (bt s a)=true) (he:zaV s a scr n e),motive _ e (.num h he)) (str: ∀{e:Nat} (h:bt s a=34) (he:zb1 s a e),motive _ e (.str h he)) (sign: ∀(h:zbn (bt s a)),motive _ _ (.sign h)):motive t e h:=by
 rcases h with ⟨h1,h2,rfl⟩|⟨n,h1,h2,rfl⟩|⟨h1,h2,rfl⟩|⟨h1,rfl,rfl⟩
 ·exact name h1 h2
 ·exact num h1 h2
 ·exact str h1 h2
 ·exact sign h1
theorem zev {c:Int} {j:Bool} (h:za3 c j=true):zK c=false∧c≠34∧¬zbn c:=by
 rw[zdR] at h
 refine⟨decide_eq_false (by omega),by omega,by unfold zbn;omega⟩
theorem zew {c:Int} (h:zK c=true):c≠34∧¬zbn c:=by
 rw[zc7] at h
 exact⟨by omega,by unfold zbn;omega⟩
theorem zmz {s:ByteArray} {H:Bool} {a:Nat} {L J:Tk} {M N:Nat} (O:Tok s H a L M) (I:Tok s H a J N):L=J∧M=N:=by
 cases O using Tok.elim with
 |name h A=>
  have z:=zev h
  cases I using Tok.elim with
  |name j q=>have:=zeZ A q;subst this;exact⟨rfl,rfl⟩
  |num j q=>rw[z.1] at j;cases j
  |str j q=>exact absurd j z.2.1
  |sign j=>exact absurd j z.2.2
 |num h A=>
  have z:=zew h
  cases I using Tok.elim with
  |name j q=>rw[(zev j).1] at h;cases h
  |num j q=>obtain⟨rfl,rfl⟩:=zmx A q;exact⟨rfl,rfl⟩
  |str j q=>exact absurd j z.1
  |sign j=>exact absurd j z.2
 |str h A=>
  cases I using Tok.elim with
  |name j q=>exact absurd h (zev j).2.1
  |num j q=>exact absurd h (zew j).1
  |str j q=>have:=zmy A q;subst this;exact⟨rfl,rfl⟩
  |sign j=>rw[h] at j;unfold zbn at j;omega
 |sign h=>
  cases I using Tok.elim with
  |name j q=>exact absurd h (zev j).2.2
  |num j q=>exact absurd h (zew j).2
  |str j q=>rw[j] at h;unfold zbn at h;omega
  |sign j=>exact⟨rfl,rfl⟩
theorem zex {s:ByteArray} {q:Bool} {a:Nat} {t:Tk} {e:Nat} (z:a<s.size) (h:Tok s q a t e):a<e∧e≤s.size∧t.pos=a:=by
 cases h using Tok.elim with
 |name h j=>
  refine⟨?_,j.2.1,rfl⟩
  rcases Nat.lt_or_ge a e with k|k
  ·exact k
  ·have A:e=a:=by have:=j.1;omega
   subst A
   have:=j.2.2.2 z
   simp[zL,h] at this
 |num h j=>exact⟨j.2.1,j.1.2.1,rfl⟩
 |str h j=>exact⟨by have:=j.1;omega,j.2.1,rfl⟩
 |sign h=>exact⟨by omega,by omega,rfl⟩
abbrev zct (s:ByteArray) (a:Nat):Prop:=bt s a=47∧a+1<s.size∧bt s (a+1)=47
def zm0 (s:ByteArray) (P:Nat→Nat→Prop):Prop:=P s.size s.size∧(∀a,a<s.size→¬zc6 (bt s a)→¬zct s a→P a a)∧(∀a b,a<s.size→zc6 (bt s a)→P (a+1) b→P a b)∧∀a c b,a<s.size→zct s a→za4 zb0 s a c→P c b→P a b
def Skip (s:ByteArray) (a b:Nat):Prop:=∀P,zm0 s P→P a b
theorem Skip.done {s:ByteArray}:Skip s s.size s.size:=fun _ k=>k.1
theorem Skip.stop {s:ByteArray} {a:Nat} (h:a<s.size) (j: ¬zc6 (bt s a)) (q: ¬zct s a):Skip s a a:=fun _ k=>k.2.1 a h j q
theorem Skip.blank {s:ByteArray} {a b:Nat} (h:a<s.size) (j:zc6 (bt s a)) (r:Skip s (a+1) b):Skip s a b:=fun P k=>k.2.2.1 a b h j (r P k)
theorem Skip.comment {s:ByteArray} {a c b:Nat} (h:a<s.size) (j:zct s a) (q:za4 zb0 s a c) (r:Skip s c b):Skip s a b:=fun P k=>k.2.2.2 a c b h j q (r P k)
theorem Skip.ind {s:ByteArray} {motive:(a b:Nat)→Skip s a b→Prop} {a b:Nat} (h:Skip s a b) (done:motive _ _ .done) (stop: ∀{a:Nat} (h:a<s.size) (h1: ¬zc6 (bt s a)) (h2: ¬zct s a),motive a a (.stop h h1 h2)) (blank: ∀{a b:Nat} (h:a<s.size) (h1:zc6 (bt s a)) (r:Skip s (a+1) b),motive _ _ r→motive a b (.blank h h1 r)) (comment: ∀{a c b:Nat} (h:a<s.size) (h1:zct s a) (hc:za4 zb0 s a c) (r:Skip s c b),motive _ _ r→motive a b (.comment h h1 hc r)):motive a b h:=
 (h (fun a b=>∃k,motive a b k) ⟨⟨_,done⟩,fun _ h h1 h2=>⟨_,stop h h1 h2⟩,fun _ _ h h1 ⟨r,k⟩=>⟨_,blank h h1 r k⟩,fun _ _ _ h h1 hc ⟨r,k⟩=>⟨_,comment h h1 hc r k⟩⟩).2
theorem Skip.elim {s:ByteArray} {motive:(a b:Nat)→Skip s a b→Prop} {a b:Nat} (h:Skip s a b) (done:motive _ _ .done) (stop: ∀{a:Nat} (h:a<s.size) (h1: ¬zc6 (bt s a)) (h2: ¬zct s a),motive a a (.stop h h1 h2)) (blank: ∀{a b:Nat} (h:a<s.size) (h1:zc6 (bt s a)) (r:Skip s (a+1) b),motive a b (.blank h h1 r)) (comment: ∀{a c b:Nat} (h:a<s.size) (h1:zct s a) (hc:za4 zb0 s a c) (r:Skip s c b),motive a b (.comment h h1 hc r)):motive a b h:=
 h.ind done stop (fun h h1 r _=>blank h h1 r) (fun h h1 hc r _=>comment h h1 hc r)
theorem ziI {s:ByteArray} {a:Nat} (h:zct s a): ¬zc6 (bt s a):=by rw[h.1];unfold zc6;omega
theorem ziJ {s:ByteArray} {a I b2:Nat} (J:Skip s a I):Skip s a b2→I=b2:=by
 induction J using Skip.ind with
 |done=>
  intro j
  generalize M:s.size=x at j
  cases j using Skip.elim with
  |done=>rfl
  |stop h _ _=>omega
  |blank h _ _=>omega
  |comment h _ _ _=>omega
 |stop h q z=>
  intro j
  cases j using Skip.elim with
  |done=>rfl
  |stop _ _ _=>rfl
  |blank _ k _=>exact absurd k q
  |comment _ k _ _=>exact absurd k z
 |blank h k _ A=>
  intro j
  cases j using Skip.elim with
  |done=>exact absurd h (Nat.lt_irrefl _)
  |stop _ q _=>exact absurd k q
  |blank _ _ r=>exact A r
  |comment _ q _ _=>exact absurd k (ziI q)
 |comment h k L _ A=>
  intro j
  cases j using Skip.elim with
  |done=>exact absurd h (Nat.lt_irrefl _)
  |stop _ _ z=>exact absurd k z
  |blank _ q _=>exact absurd q (ziI k)
  |comment _ _ H r=>have:=zeZ L H;subst this;exact A r
theorem zhj {s:ByteArray} {a b:Nat} (h:Skip s a b):a≤b∧b≤s.size:=by
 induction h using Skip.ind with
 |done=>exact⟨Nat.le_refl _,Nat.le_refl _⟩
 |stop h _ _=>exact⟨Nat.le_refl _,by omega⟩
 |blank h _ _ j=>exact⟨by omega,j.2⟩
 |comment h _ q _ j=>exact⟨by have:=q.1;omega,j.2⟩
def LxK (s:ByteArray) (scr:Bool) (P:Nat→Nat→Except Nat (List Tk)→Prop):Prop:=(∀n,P s.size n (.ok []))∧(∀a n,a<s.size→(4000≤n∨∀t e,¬Tok s scr a t e)→P a n (.error a))∧∀a n e b t r,a<s.size→n<4000→Tok s scr a t e→Skip s e b→P b (n+1) r→P a n (r.map (t:: ·))
def Lx (s:ByteArray) (scr:Bool) (a n:Nat) (r:Except Nat (List Tk)):Prop:=∀P,LxK s scr P→P a n r
theorem Lx.done {s:ByteArray} {j:Bool} {n:Nat}:Lx s j s.size n (.ok []):=fun _ k=>k.1 n
theorem Lx.bad {s:ByteArray} {j:Bool} {a n:Nat} (h:a<s.size) (q:4000≤n∨∀t e,¬Tok s j a t e):Lx s j a n (.error a):=fun _ k=>k.2.1 a n h q
theorem Lx.tok {s:ByteArray} {j:Bool} {a n e b:Nat} {t:Tk} {r:Except Nat (List Tk)} (h:a<s.size) (H:n<4000) (z:Tok s j a t e) (A:Skip s e b) (q:Lx s j b (n+1) r):Lx s j a n (r.map (t:: ·)):=fun P k=>k.2.2 a n e b t r h H z A (q P k)
theorem Lx.ind {s:ByteArray} {scr:Bool} {motive:(a n:Nat)→(r:Except Nat (List Tk))→Lx s scr a n r→Prop} {a n:Nat} {r:Except Nat (List Tk)} (h:Lx s scr a n r) (done: ∀{n:Nat},motive _ n _ .done) (bad: ∀{a n:Nat} (h:a<s.size) (h1:4000≤n∨∀t e,¬Tok s scr a t e),motive a n _ (.bad h h1)) (tok: ∀{a n e b:Nat} {t:Tk} {r:Except Nat (List Tk)} (h:a<s.size) (hn:n<4000) (ht:Tok s scr a t e) (hs:Skip s e b) (hr:Lx s scr b (n+1) r),motive _ _ _ hr→motive a n _ (.tok h hn ht hs hr)):motive a n r h:=
 (h (fun a n r=>∃k,motive a n r k) ⟨fun _=>⟨_,done⟩,fun _ _ h h1=>⟨_,bad h h1⟩,fun _ _ _ _ _ _ h hn ht hs ⟨hr,k⟩=>⟨_,tok h hn ht hs hr k⟩⟩).2
theorem Lx.elim {s:ByteArray} {scr:Bool} {motive:(a n:Nat)→(r:Except Nat (List Tk))→Lx s scr a n r→Prop} {a n:Nat} {r:Except Nat (List Tk)} (h:Lx s scr a n r) (done: ∀{n:Nat},motive _ n _ .done) (bad: ∀{a n:Nat} (h:a<s.size) (h1:4000≤n∨∀t e,¬Tok s scr a t e),motive a n _ (.bad h h1)) (tok: ∀{a n e b:Nat} {t:Tk} {r:Except Nat (List Tk)} (h:a<s.size) (hn:n<4000) (ht:Tok s scr a t e) (hs:Skip s e b) (hr:Lx s scr b (n+1) r),motive a n _ (.tok h hn ht hs hr)):motive a n r h:=
 h.ind done bad (fun h hn ht hs hr _=>tok h hn ht hs hr)
theorem zm1 {s:ByteArray} {q:Bool} {a n:Nat} {J H:Except Nat (List Tk)} (M:Lx s q a n J):Lx s q a n H→J=H:=by
 induction M using Lx.ind generalizing H with
 |done=>
  intro j
  generalize U:s.size=x at j
  cases j using Lx.elim with
  |done=>rfl
  |bad h _=>omega
  |tok h _ _ _ _=>omega
 |bad h k=>
  intro j
  cases j using Lx.elim with
  |done=>exact absurd h (Nat.lt_irrefl _)
  |bad _ _=>rfl
  |tok _ O z _ _=>exact k.elim (fun k=>by omega) fun k=>absurd z (k _ _)
 |tok h O z N _ L=>
  intro j
  cases j using Lx.elim with
  |done=>exact absurd h (Nat.lt_irrefl _)
  |bad _ k=>exact k.elim (fun k=>by omega) fun k=>absurd z (k _ _)
  |tok _ _ A I r=>
   obtain⟨rfl,rfl⟩:=zmz z A
   have:=ziJ N I
   subst this
   rw[L r]
def zai (s:ByteArray) (scr:Bool) (r:Except Nat (List Tk)):Prop:=∃a,Skip s 0 a∧Lx s scr a 0 r
theorem zm2 {s:ByteArray} {j:Bool} {z q:Except Nat (List Tk)} (L:zai s j z) (H:zai s j q):z=q:=by
 obtain⟨a,M,I⟩:=L
 obtain⟨b,A,J⟩:=H
 have:=ziJ M A
 subst this
 exact zm1 I J
structure Ex where
 kind:Int
 num:Int
 name:ByteArray
 field:ByteArray
 l:Int
 r:Int
structure Sm where
 kind:Int
 name:ByteArray
 expr:Int
structure Im where
 spec:ByteArray
 first:ByteArray
 loc:ByteArray
structure Ep where
 kind:Int
 name:ByteArray
 loc:ByteArray
 spec:ByteArray
structure Cx where
 ts:List Tk
 fin:Nat
 scr:Bool
structure PS where
 pos:Nat
 rq:List ByteArray
 im:List Im
 ep:List Ep
 st:List Sm
 ex:List Ex
 la:List Ep
abbrev PR:=Except Nat PS
abbrev zao:ByteArray:={data:=#[105,109,112,111,114,116]}
abbrev zaj:ByteArray:={data:=#[101,120,112,111,114,116]}
abbrev sDefault:ByteArray:={data:=#[100,101,102,97,117,108,116]}
abbrev zG:ByteArray:={data:=#[108,101,116]}
abbrev zX:ByteArray:={data:=#[102,117,110,99,116,105,111,110]}
abbrev zey:ByteArray:={data:=#[114,101,116,117,114,110]}
abbrev za0:ByteArray:={data:=#[112,114,105,110,116]}
abbrev zaA:ByteArray:={data:=#[116,104,114,111,119]}
abbrev zbQ:ByteArray:={data:=#[102,97,105,108]}
abbrev zaE:ByteArray:={data:=#[117,110,100,101,102]}
abbrev sAs:ByteArray:={data:=#[97,115]}
abbrev zY:ByteArray:={data:=#[102,114,111,109]}
abbrev zck:ByteArray:={data:=#[42,100,101,102,97,117,108,116]}
abbrev zr:ByteArray:={data:=#[40]}
abbrev za8:ByteArray:={data:=#[41]}
abbrev zy:ByteArray:={data:=#[42]}
abbrev zcu:ByteArray:={data:=#[43]}
abbrev zbF:ByteArray:={data:=#[44]}
abbrev zbo:ByteArray:={data:=#[45]}
abbrev cPoint:ByteArray:={data:=#[46]}
abbrev cSemi:ByteArray:={data:=#[59]}
abbrev cEq:ByteArray:={data:=#[61]}
abbrev zM:ByteArray:={data:=#[123]}
abbrev zb2:ByteArray:={data:=#[125]}
def bd {α β:Type} (x:Except Nat α) (f:α→Except Nat β):Except Nat β:=
 match x with
 | .ok a=>f a
 | .error e=>.error e
theorem zC {α β:Type} (a:α) (f:α→Except Nat β):bd (.ok a) f=f a:=rfl
theorem zez {α β:Type} (e:Nat) (f:α→Except Nat β):bd (.error e) f= .error e:=rfl
theorem zP {α β γ:Type} (x:Except Nat α) (f:α→Except Nat β) (g:β→Except Nat γ):bd (bd x f) g=bd x fun a=>bd (f a) g:=by cases x<;>rfl
theorem zaf {α β:Type} {x:Except Nat α} {f g:α→Except Nat β} (h: ∀a,x= .ok a→f a=g a):bd x f=bd x g:=by
 cases x with
 |ok a=>exact h a rfl
 |error e=>rfl
theorem zf {α β:Type} {x:Except Nat α} {f:α→Except Nat β} {b:β} (h:bd x f= .ok b): ∃a,x= .ok a∧f a= .ok b:=by
 cases x with
 |ok a=>exact⟨a,rfl,h⟩
 |error e=>cases h
def ze (C:Cx) (i:Nat):Tk:=C.ts.getD i ⟨0,sNone,0,C.fin⟩
def zu (C:Cx) (i:Nat):Nat:=(ze C i).pos
def isT (C:Cx) (i:Nat) (k:Int) (x:ByteArray):Bool:=((ze C i).kind==k)&&((ze C i).text.toList==x.toList)
def adv (q:PS):PS:={q with pos:=q.pos+1}
def zd (C:Cx) (k:Int) (x:ByteArray) (q:PS):PR:=if isT C q.pos k x then .ok (adv q) else .error (zu C q.pos)
def zw (x:ByteArray) (scr:Bool):Bool:=
 x.toList==[105,109,112,111,114,116]||x.toList==[101,120,112,111,114,116]||x.toList==[100,101,102,97,117,108,116]||x.toList==[108,101,116]||x.toList==[102,117,110,99,116,105,111,110]||x.toList==[114,101,116,117,114,110]||x.toList==[112,114,105,110,116]||x.toList==[116,104,114,111,119]
  ||((x.toList==[102,97,105,108]||x.toList==[117,110,100,101,102])&&scr)
def zH (C:Cx) (i:Nat) (o:Bool):Bool:=((ze C i).kind==1)&&(!zw (ze C i).text C.scr||(o&&((ze C i).text.toList==[100,101,102,97,117,108,116])))
def zo (C:Cx) (o:Bool) (q:PS):Except Nat (PS×ByteArray):=if zH C q.pos o then .ok (adv q,(ze C q.pos).text) else .error (zu C q.pos)
def zak (l:List ByteArray) (x:ByteArray):Bool:=l.any fun y=>y.toList==x.toList
def zF (C:Cx) (q:PS):Except Nat (PS×ByteArray):=
 if (ze C q.pos).kind==3 then
  if zak q.rq (ze C q.pos).text then .ok (adv q,(ze C q.pos).text)
  else if 40≤q.rq.length then .error (zu C q.pos)
  else .ok ({adv q with rq:=q.rq++[(ze C q.pos).text]},(ze C q.pos).text)
 else .error (zu C q.pos)
def zal (C:Cx) (x:Im) (q:PS):PR:=if 40≤q.im.length then .error (zu C (q.pos-1)) else .ok {q with im:=q.im++[x]}
def zq (C:Cx) (x:Ep) (q:PS):PR:=
 if 40≤q.ep.length+q.la.length then .error (zu C (q.pos-1))
 else if x.loc.toList==[42,100,101,102,97,117,108,116] then .ok {q with la:=q.la++[x]} else .ok {q with ep:=q.ep++[x]}
def zU (C:Cx) (k:Int) (n:ByteArray) (q:PS):PR:=if 80≤q.st.length then .error (zu C (q.pos-1)) else .ok {q with st:=q.st++[⟨k,n,(q.ex.length:Int)-1⟩]}
def zQ (C:Cx) (x:Ex) (q:PS):PR:=if 300≤q.ex.length then .error (zu C (q.pos-1)) else .ok {q with ex:=q.ex++[x]}
def zbp (C:Cx) (n:ByteArray) (q:PS):PR:=
 if isT C q.pos 4 zr then bd (bd (zd C 4 zr q) (zd C 4 za8)) (zQ C ⟨3,0,n,sNone,0,0⟩) else zQ C ⟨2,0,n,sNone,0,0⟩ q
def zbG (C:Cx) (n f:ByteArray) (q:PS):PR:=
 if isT C q.pos 4 zr then bd (bd (zd C 4 zr q) (zd C 4 za8)) (zQ C ⟨5,0,n,f,0,0⟩) else zQ C ⟨4,0,n,f,0,0⟩ q
abbrev NT:Type:=Option (Option (Option (Option Unit)))
abbrev NT.sum:NT:=none
abbrev NT.sumT:NT:=some none
abbrev NT.prod:NT:=some (some none)
abbrev NT.prodT:NT:=some (some (some none))
abbrev NT.part:NT:=some (some (some (some ())))
theorem NT.elim {motive:NT→Prop} (nt:NT) (sum:motive .sum) (sumT:motive .sumT) (prod:motive .prod) (prodT:motive .prodT) (part:motive .part):motive nt:=
 match nt with
 |none=>sum
 |some none=>sumT
 |some (some none)=>prod
 |some (some (some none))=>prodT
 |some (some (some (some ())))=>part
def zdz (C:Cx) (i:Nat):Int:=if isT C i 4 zbo then 7 else 6
def ev (C:Cx):Nat→NT→Nat→PS→PR
 |0,_,_,_=>.error 0
 |f+1,none,d,q=>bd (ev C f .prod d q) (ev C f .sumT d)
 |f+1,some none,d,q=>
  if isT C q.pos 4 zcu||isT C q.pos 4 zbo then
   bd (bd (ev C f .prod d (adv q)) fun q'=>zQ C ⟨zdz C q.pos,0,sNone,sNone,(q.ex.length:Int)-1,(q'.ex.length:Int)-1⟩ q') (ev C f .sumT d)
  else .ok q
 |f+1,some (some none),d,q=>bd (ev C f .part d q) (ev C f .prodT d)
 |f+1,some (some (some none)),d,q=>
  if isT C q.pos 4 zy then
   bd (bd (ev C f .part d (adv q)) fun q'=>zQ C ⟨8,0,sNone,sNone,(q.ex.length:Int)-1,(q'.ex.length:Int)-1⟩ q') (ev C f .prodT d)
  else .ok q
 |f+1,some (some (some (some ()))),d,q=>
  if (ze C q.pos).kind==2 then zQ C ⟨1,(ze C q.pos).num,sNone,sNone,0,0⟩ (adv q)
  else if isT C q.pos 4 zr then
   if 20≤d then .error (zu C q.pos) else bd (ev C f .sum (d+1) (adv q)) (zd C 4 za8)
  else if C.scr&&isT C q.pos 1 zaE then zbp C zaE (adv q)
  else bd (zo C false q) fun x=>if isT C x.1.pos 4 cPoint then bd (zo C true (adv x.1)) fun y=>zbG C x.2 y.2 y.1 else zbp C x.2 x.1
def nd (C:Cx) (nt:NT) (q:PS):Nat:=
 5*(C.ts.length-q.pos)+match nt with
  | .sum=>3
  | .prod=>2
  |_=>1
def pE (C:Cx) (nt:NT) (d:Nat) (q:PS):PR:=ev C (nd C nt q) nt d q
theorem zdF {C:Cx} {i:Nat} (h:C.ts.length≤i):ze C i=⟨0,sNone,0,C.fin⟩:=by simp[ze,List.getD,List.getElem?_eq_none h]
theorem za9 {C:Cx} {i:Nat} {k:Int} {x:ByteArray} (h:isT C i k x=true) (j:k≠0):i<C.ts.length:=by
 rcases Nat.lt_or_ge i C.ts.length with g|g
 ·exact g
 ·simp only[isT,zdF g,Bool.and_eq_true,beq_iff_eq] at h
  exact absurd h.1.symm j
theorem zfW {C:Cx} {i:Nat} {k:Int} (h:((ze C i).kind==k)=true) (j:k≠0):i<C.ts.length:=by
 rcases Nat.lt_or_ge i C.ts.length with g|g
 ·exact g
 ·simp only[zdF g,beq_iff_eq] at h
  exact absurd h.symm j
theorem zfa {C:Cx} {i:Nat} {o:Bool} (h:zH C i o=true):i<C.ts.length:=by
 simp only[zH,Bool.and_eq_true] at h
 exact zfW h.1 (by decide)
theorem zbL {C:Cx} {k:Int} {x:ByteArray} {q q':PS} (h:zd C k x q= .ok q'):q'=adv q∧isT C q.pos k x=true:=by
 unfold zd at h
 split at h
 ·next g=>exact⟨by cases h;rfl,g⟩
 ·cases h
theorem zbq {C:Cx} {o:Bool} {q:PS} {y:PS×ByteArray} (h:zo C o q= .ok y):y=(adv q,(ze C q.pos).text)∧zH C q.pos o=true:=by
 unfold zo at h
 split at h
 ·next g=>exact⟨by cases h;rfl,g⟩
 ·cases h
theorem zbr {C:Cx} {x:Ex} {q q':PS} (h:zQ C x q= .ok q'):q'={q with ex:=q.ex++[x]}∧q.ex.length<300:=by
 unfold zQ at h
 split at h
 ·cases h
 ·cases h
  exact⟨rfl,by omega⟩
theorem zz (q:PS):(adv q).pos=q.pos+1:=rfl
theorem ziK {C:Cx} {n:ByteArray} {q q':PS} (h:zbp C n q= .ok q'):q.pos≤q'.pos:=by
 unfold zbp at h
 split at h
 ·obtain⟨a,j,z⟩:=zf h
  obtain⟨b,H,A⟩:=zf j
  obtain⟨rfl,_⟩:=zbL H
  obtain⟨rfl,_⟩:=zbL A
  obtain⟨rfl,_⟩:=zbr z
  show q.pos≤q.pos+1+1
  omega
 ·obtain⟨rfl,_⟩:=zbr h
  exact Nat.le_refl _
theorem zm3 {C:Cx} {n f:ByteArray} {q q':PS} (h:zbG C n f q= .ok q'):q.pos≤q'.pos:=by
 unfold zbG at h
 split at h
 ·obtain⟨a,j,z⟩:=zf h
  obtain⟨b,H,A⟩:=zf j
  obtain⟨rfl,_⟩:=zbL H
  obtain⟨rfl,_⟩:=zbL A
  obtain⟨rfl,_⟩:=zbr z
  show q.pos≤q.pos+1+1
  omega
 ·obtain⟨rfl,_⟩:=zbr h
  exact Nat.le_refl _
theorem zfb {C:Cx} (f:Nat): ∀(L:NT) (d:Nat) (q q':PS),ev C f L d q= .ok q'→q.pos≤q'.pos:=by
 induction f with
 |zero=>intro L d q q' h;cases L using NT.elim<;>cases h
 |succ f H=>
  intro L d q q' h
  cases L using NT.elim with
  |sum=>
   rw[ev] at h
   obtain⟨a,A,j⟩:=zf h
   exact Nat.le_trans (H _ _ _ _ A) (H _ _ _ _ j)
  |prod=>
   rw[ev] at h
   obtain⟨a,A,j⟩:=zf h
   exact Nat.le_trans (H _ _ _ _ A) (H _ _ _ _ j)
  |sumT=>
   rw[ev] at h
   split at h
   ·obtain⟨a,A,j⟩:=zf h
    obtain⟨b,M,J⟩:=zf A
    obtain⟨rfl,_⟩:=zbr J
    have I:=H _ _ _ _ M
    have N:=H _ _ _ _ j
    rw[zz] at I
    exact Nat.le_trans (by omega:q.pos≤b.pos) N
   ·cases h
    exact Nat.le_refl _
  |prodT=>
   rw[ev] at h
   split at h
   ·obtain⟨a,A,j⟩:=zf h
    obtain⟨b,M,J⟩:=zf A
    obtain⟨rfl,_⟩:=zbr J
    have I:=H _ _ _ _ M
    have N:=H _ _ _ _ j
    rw[zz] at I
    exact Nat.le_trans (by omega:q.pos≤b.pos) N
   ·cases h
    exact Nat.le_refl _
  |part=>
   rw[ev] at h
   split at h
   ·obtain⟨rfl,_⟩:=zbr h
    show q.pos≤q.pos+1
    omega
   ·split at h
    ·split at h
     ·cases h
     ·obtain⟨a,A,j⟩:=zf h
      obtain⟨rfl,_⟩:=zbL j
      have I:=H _ _ _ _ A
      rw[zz] at I ⊢
      omega
    ·split at h
     ·have:=ziK h
      rw[zz] at this
      omega
     ·obtain⟨y,A,j⟩:=zf h
      obtain⟨rfl,_⟩:=zbq A
      simp only at j
      split at j
      ·obtain⟨z,M,J⟩:=zf j
       obtain⟨rfl,_⟩:=zbq M
       have:=zm3 J
       simp only[zz] at this
       omega
      ·have:=ziK j
       rw[zz] at this
       omega
theorem zm4 {C:Cx} (f:Nat): ∀(g:Nat) (z:NT) (d:Nat) (q:PS),nd C z q≤f→nd C z q≤g→ev C f z d q=ev C g z d q:=by
 induction f with
 |zero=>intro g z d q h;unfold nd at h;cases z using NT.elim<;>simp at h
 |succ f j=>
  intro g z d q L H
  obtain⟨g,rfl⟩: ∃O,g=O+1:=by
   match g with
   |0=>unfold nd at H;cases z using NT.elim<;>simp at H
   |g+1=>exact⟨g,rfl⟩
  cases z using NT.elim with
  |sum=>
   simp only[nd] at L H
   rw[ev,ev,j g .prod d q (by simp only[nd];omega) (by simp only[nd];omega)]
   refine zaf fun a A=>?_
   have:=zfb _ _ _ _ _ A
   exact j g .sumT d a (by simp only[nd];omega) (by simp only[nd];omega)
  |prod=>
   simp only[nd] at L H
   rw[ev,ev,j g .part d q (by simp only[nd];omega) (by simp only[nd];omega)]
   refine zaf fun a A=>?_
   have:=zfb _ _ _ _ _ A
   exact j g .prodT d a (by simp only[nd];omega) (by simp only[nd];omega)
  |sumT=>
   simp only[nd] at L H
   rw[ev,ev]
   split
   ·next I=>
    have J:q.pos<C.ts.length:=by
     rw[Bool.or_eq_true] at I
     exact I.elim (fun k=>za9 k (by decide)) fun k=>za9 k (by decide)
    rw[j g .prod d (adv q) (by simp only[nd,zz];omega) (by simp only[nd,zz];omega)]
    refine zaf fun a A=>?_
    obtain⟨b,N,M⟩:=zf A
    obtain⟨rfl,_⟩:=zbr M
    have:=zfb _ _ _ _ _ N
    rw[zz] at this
    exact j g .sumT d _ (by simp only[nd];omega) (by simp only[nd];omega)
   ·rfl
  |prodT=>
   simp only[nd] at L H
   rw[ev,ev]
   split
   ·next I=>
    have J:q.pos<C.ts.length:=za9 I (by decide)
    rw[j g .part d (adv q) (by simp only[nd,zz];omega) (by simp only[nd,zz];omega)]
    refine zaf fun a A=>?_
    obtain⟨b,N,M⟩:=zf A
    obtain⟨rfl,_⟩:=zbr M
    have:=zfb _ _ _ _ _ N
    rw[zz] at this
    exact j g .prodT d _ (by simp only[nd];omega) (by simp only[nd];omega)
   ·rfl
  |part=>
   simp only[nd] at L H
   rw[ev,ev]
   split
   ·rfl
   ·split
    ·next I=>
     have J:q.pos<C.ts.length:=za9 I (by decide)
     split
     ·rfl
     ·rw[j g .sum (d+1) (adv q) (by simp only[nd,zz];omega) (by simp only[nd,zz];omega)]
    ·rfl
theorem zdf {C:Cx} {f d:Nat} {j:NT} {q:PS} (h:nd C j q≤f):ev C f j d q=pE C j d q:=zm4 f _ j d q h (Nat.le_refl _)
theorem zbh {C:Cx} {j:NT} {d:Nat} {q q':PS} (h:pE C j d q= .ok q'):q.pos≤q'.pos:=zfb _ _ _ _ _ h
theorem zfc {C:Cx} {j:NT} {d:Nat} {q:PS}:pE C j d q=ev C (nd C j q+1) j d q:=(zdf (Nat.le_succ _)).symm
theorem ziL (C:Cx) (d:Nat) (q:PS):pE C .sum d q=bd (pE C .prod d q) (pE C .sumT d):=by
 rw[zfc,ev,zdf (by simp only[nd];omega)]
 refine zaf fun a j=>?_
 have:=zbh j
 exact zdf (by simp only[nd];omega)
theorem ziM (C:Cx) (d:Nat) (q:PS):pE C .prod d q=bd (pE C .part d q) (pE C .prodT d):=by
 rw[zfc,ev,zdf (by simp only[nd];omega)]
 refine zaf fun a j=>?_
 have:=zbh j
 exact zdf (by simp only[nd];omega)
theorem zfd (C:Cx) (d:Nat) (q:PS):pE C .sumT d q=
  if isT C q.pos 4 zcu||isT C q.pos 4 zbo then
   bd (bd (pE C .prod d (adv q)) fun q'=>zQ C ⟨zdz C q.pos,0,sNone,sNone,(q.ex.length:Int)-1,(q'.ex.length:Int)-1⟩ q') (pE C .sumT d)
  else .ok q:=by
 rw[zfc,ev]
 split
 ·next j=>
  have z:q.pos<C.ts.length:=by
   rw[Bool.or_eq_true] at j
   exact j.elim (fun k=>za9 k (by decide)) fun k=>za9 k (by decide)
  rw[zdf (by simp only[nd,zz];omega)]
  refine zaf fun a A=>?_
  obtain⟨b,I,H⟩:=zf A
  obtain⟨rfl,_⟩:=zbr H
  have:=zbh I
  rw[zz] at this
  exact zdf (by simp only[nd];omega)
 ·rfl
theorem zfX (C:Cx) (d:Nat) (q:PS):pE C .prodT d q=
  if isT C q.pos 4 zy then
   bd (bd (pE C .part d (adv q)) fun q'=>zQ C ⟨8,0,sNone,sNone,(q.ex.length:Int)-1,(q'.ex.length:Int)-1⟩ q') (pE C .prodT d)
  else .ok q:=by
 rw[zfc,ev]
 split
 ·next I=>
  have j:q.pos<C.ts.length:=za9 I (by decide)
  rw[zdf (by simp only[nd,zz];omega)]
  refine zaf fun a z=>?_
  obtain⟨b,H,A⟩:=zf z
  obtain⟨rfl,_⟩:=zbr A
  have:=zbh H
  rw[zz] at this
  exact zdf (by simp only[nd];omega)
 ·rfl
theorem zbM (C:Cx) (d:Nat) (q:PS):pE C .part d q=
  if (ze C q.pos).kind==2 then zQ C ⟨1,(ze C q.pos).num,sNone,sNone,0,0⟩ (adv q)
  else if isT C q.pos 4 zr then
   if 20≤d then .error (zu C q.pos) else bd (pE C .sum (d+1) (adv q)) (zd C 4 za8)
  else if C.scr&&isT C q.pos 1 zaE then zbp C zaE (adv q)
  else bd (zo C false q) fun x=>if isT C x.1.pos 4 cPoint then bd (zo C true (adv x.1)) fun y=>zbG C x.2 y.2 y.1 else zbp C x.2 x.1:=by
 rw[zfc,ev]
 split
 ·rfl
 ·split
  ·next j=>
   have z:q.pos<C.ts.length:=za9 j (by decide)
   split
   ·rfl
   ·rw[zdf (by simp only[nd,zz];omega)]
  ·rfl
theorem zfe (k:Nat):(0:Int)<10^k:=Int.pow_pos (by omega)
theorem zdS (k:Nat):(10:Int)^(k+1)=10^k*10:=Int.pow_succ _ _
theorem zff {a b:Nat} (h:a≤b):(10:Int)^a≤10^b:=by
 induction b with
 |zero=>
  obtain rfl:a=0:=by omega
  exact Int.le_refl _
 |succ b j=>
  by_cases e:a=b+1
  ·rw[e];exact Int.le_refl _
  ·have:=j (by omega)
   have:=zfe b
   rw[zdS]
   omega
theorem ze0 (n:Int) (k:Nat):n/10^k/10=n/10^(k+1):=by
 rw[zdS,Int.ediv_ediv_of_nonneg (Int.le_of_lt (zfe k))]
theorem ze1 (n:Int) (k:Nat) (h:0≤n):0≤n/10^k∧n/10^k≤n:=
 ⟨Int.ediv_nonneg h (Int.le_of_lt (zfe k)),Int.ediv_le_self _ h⟩
def dc:Nat→Int→Nat
 |0,_=>1
 |f+1,q=>if q<10 then 1 else dc f (q/10)+1
theorem zm5 (f:Nat) (q:Int) (A:0≤q) (h:q<10^(f+1)):1≤dc f q∧dc f q≤f+1∧q<10^dc f q∧(dc f q=1∨10^(dc f q-1)≤q):=by
 induction f generalizing q with
 |zero=>simpa [dc] using h
 |succ f z=>
  unfold dc
  by_cases j:q<10
  ·rw[if_pos j]
   exact⟨by omega,by omega,by simpa using j,.inl rfl⟩
  ·rw[if_neg j]
   obtain⟨a,b,c,d⟩:=z (q/10) (by omega) (by rw[zdS] at h;omega)
   refine⟨by omega,by omega,?_,.inr ?_⟩
   ·rw[zdS];omega
   ·rw[Nat.add_sub_cancel]
    rcases d with d|d
    ·rw[d]
     show (10:Int)^1≤q
     rw[show (10:Int)^1=10 from by decide]
     omega
    ·rw[show dc f (q/10)=(dc f (q/10)-1)+1 from by omega,zdS]
     omega
def dcn (m:Int):Nat:=dc 19 m
theorem zd0 (m:Int) (j:0≤m) (h:m≤18446744073709551615):1≤dcn m∧dcn m≤20∧m<10^dcn m∧(dcn m=1∨10^(dcn m-1)≤m):=
 zm5 19 m j (by rw[show (10:Int)^(19+1)=100000000000000000000 by decide];omega)
theorem zm6 (m:Int) (q:0≤m) (h:m≤18446744073709551615) (k:Nat):10≤m/10^k↔k+1<dcn m:=by
 obtain⟨a,b,c,d⟩:=zd0 m q h
 rw[Int.le_ediv_iff_mul_le (zfe k),Int.mul_comm,←zdS]
 constructor
 ·intro j
  rcases Nat.lt_or_ge (k+1) (dcn m) with e|e
  ·exact e
  ·have:=zff e
   omega
 ·intro j
  have:=zff (show k+1≤dcn m-1 by omega)
  omega
theorem ziN (m:Int) (q:1≤m) (h:m≤18446744073709551615) (k:Nat):m/10^k≠0↔k<dcn m:=by
 obtain⟨a,b,c,d⟩:=zd0 m (by omega) h
 have z:=ze1 m k (by omega)
 have:m/10^k≠0↔1≤m/10^k:=by omega
 rw[this,Int.le_ediv_iff_mul_le (zfe k),Int.one_mul]
 constructor
 ·intro j
  rcases Nat.lt_or_ge k (dcn m) with e|e
  ·exact e
  ·have:=zff e
   omega
 ·intro j
  have:=zff (show k≤dcn m-1 by omega)
  rcases d with d|d
  ·obtain rfl:k=0:=by omega
   simpa using q
  ·omega
def dgk (m:Int):Nat→List Int
 |0=>[]
 |k+1=>(48+m/10^k%10)::dgk m k
theorem zc8 (m:Int) (k:Nat):(dgk m k).length=k:=by
 induction k with
 |zero=>rfl
 |succ k j=>simp[dgk,j]
theorem ziO (m:Int) (c k:Nat) (h:k<c):(dgk m c)[c-1-k]? =some (48+m/10^k%10):=by
 induction c with
 |zero=>omega
 |succ c j=>
  by_cases e:k=c
  ·subst e
   rw[show k+1-1-k=0 from by omega]
   rfl
  ·rw[show c+1-1-k=(c-1-k)+1 from by omega,dgk,List.getElem?_cons_succ]
   exact j (by omega)
def zfY (n:Int):Int:=if n<0 then-n else n
def zbR (n:Int):List Int:=(if n<0 then [45] else [])++dgk (zfY n) (dcn (zfY n))
theorem zhk {n:Int} (h:n<0):zbR n=45::dgk (-n) (dcn (-n)):=by simp[zbR,h,zfY]
theorem zhl {n:Int} (h:0≤n):zbR n=dgk n (dcn n):=by
 have: ¬n<0:=by omega
 simp[zbR,this,zfY]
theorem zm7 (L:List Int):zcK L L.length=L:=by simp[zcK]
theorem zm8 (x:Int) (L:List Int):(zcK (x::L) L.length).set 0 x=x::L:=by
 simp[zcK]
theorem zm9 (p:List Int) (m:Int) (c k:Nat) (h:k<c):(p++dgk m c)[(p++dgk m c).length-1-k]? =some (48+m/10^k%10):=by
 rw[List.length_append,zc8,List.getElem?_append_right (by omega),show p.length+c-1-k-p.length=c-1-k from by omega]
 exact ziO m c k h
structure Md where
 rq:List ByteArray
 im:List Im
 ep:List Ep
 st:List Sm
 ex:List Ex
def zdT (q:PS):Md:=⟨q.rq,q.im,q.ep++q.la,q.st,q.ex⟩
def zR (k:Int):Bool:=k==6||k==7
def zaa (k:Int):Bool:=k==6||k==7||k==8
def zi:Ex:=⟨0,0,sNone,sNone,0,0⟩
abbrev cParens:ByteArray:={data:=#[40,41]}
abbrev tPlus:ByteArray:={data:=#[32,43,32]}
abbrev tMinus:ByteArray:={data:=#[32,45,32]}
abbrev tStar:ByteArray:={data:=#[32,42,32]}
def zJ (b:Bool) (t:ByteArray):ByteArray:=if b then zr++t++za8 else t
def prE (ex:List Ex):Nat→Nat→ByteArray
 |0,_=>sNone
 |f+1,i=>
  let x:=ex.getD i zi
  if x.kind==1 then strOfNums (zbR x.num)
  else if x.kind==2 then x.name
  else if x.kind==3 then x.name++cParens
  else if x.kind==4 then x.name++cPoint++x.field
  else if x.kind==5 then x.name++cPoint++x.field++cParens
  else if x.kind==6 then prE ex f x.l.toNat++tPlus++zJ (zR (ex.getD x.r.toNat zi).kind) (prE ex f x.r.toNat)
  else if x.kind==7 then prE ex f x.l.toNat++tMinus++zJ (zR (ex.getD x.r.toNat zi).kind) (prE ex f x.r.toNat)
  else if x.kind==8 then zJ (zR (ex.getD x.l.toNat zi).kind) (prE ex f x.l.toNat)++tStar++zJ (zaa (ex.getD x.r.toNat zi).kind) (prE ex f x.r.toNat)
  else sNone
def prX (ex:List Ex) (i:Nat):ByteArray:=prE ex (i+1) i
def zb3 (ex:List Ex):Prop:=∀(i:Nat) (x:Ex),ex[i]? =some x→zaa x.kind=true→0≤x.l∧x.l<(i:Int)∧0≤x.r∧x.r<(i:Int)
theorem zbH {k:Int} (h:(k==6)=true∨(k==7)=true∨(k==8)=true):zaa k=true:=by
 unfold zaa
 rcases h with h|h|h<;>simp[h]
theorem zfZ {ex:List Ex} (h:zb3 ex) {i:Nat} (j:zaa (ex.getD i zi).kind=true):0≤(ex.getD i zi).l∧(ex.getD i zi).l<(i:Int)∧0≤(ex.getD i zi).r∧(ex.getD i zi).r<(i:Int):=by
 by_cases q:i<ex.length
 ·have e:ex.getD i zi=ex[i]:=by simp[List.getD,List.getElem?_eq_getElem q]
  rw[e] at j ⊢
  exact h i _ (List.getElem?_eq_getElem q) j
 ·have e:ex.getD i zi=zi:=by simp[List.getD,List.getElem?_eq_none (by omega:ex.length≤i)]
  rw[e] at j
  exact absurd j (by decide)
theorem ziP {ex:List Ex} (h:zb3 ex) (f:Nat): ∀(g i:Nat),i<f→i<g→prE ex f i=prE ex g i:=by
 induction f with
 |zero=>intro g i O;omega
 |succ f I=>
  intro g i N M
  obtain⟨g,rfl⟩: ∃L,g=L+1:=⟨g-1,by omega⟩
  rw[prE,prE]
  have J:=fun q=>zfZ h (i:=i) q
  generalize ex.getD i zi=x at J ⊢
  have j: ∀q:zaa x.kind=true,prE ex f x.l.toNat=prE ex g x.l.toNat∧prE ex f x.r.toNat=prE ex g x.r.toNat:=fun q=>by
   have:=J q
   exact⟨I g _ (by omega) (by omega),I g _ (by omega) (by omega)⟩
  by_cases z:(x.kind==6)=true
  ·rw[(j (zbH (.inl z))).1,(j (zbH (.inl z))).2]
  ·by_cases H:(x.kind==7)=true
   ·rw[(j (zbH (.inr (.inl H)))).1,(j (zbH (.inr (.inl H)))).2]
   ·by_cases A:(x.kind==8)=true
    ·rw[(j (zbH (.inr (.inr A)))).1,(j (zbH (.inr (.inr A)))).2]
    ·simp only[z,H,A,Bool.false_eq_true,↓reduceIte]
theorem zhm {ex:List Ex} (h:zb3 ex) (i:Nat):prX ex i=
  if (ex.getD i zi).kind==1 then strOfNums (zbR (ex.getD i zi).num)
  else if (ex.getD i zi).kind==2 then (ex.getD i zi).name
  else if (ex.getD i zi).kind==3 then (ex.getD i zi).name++cParens
  else if (ex.getD i zi).kind==4 then (ex.getD i zi).name++cPoint++(ex.getD i zi).field
  else if (ex.getD i zi).kind==5 then (ex.getD i zi).name++cPoint++(ex.getD i zi).field++cParens
  else if (ex.getD i zi).kind==6 then prX ex (ex.getD i zi).l.toNat++tPlus++zJ (zR (ex.getD (ex.getD i zi).r.toNat zi).kind) (prX ex (ex.getD i zi).r.toNat)
  else if (ex.getD i zi).kind==7 then prX ex (ex.getD i zi).l.toNat++tMinus++zJ (zR (ex.getD (ex.getD i zi).r.toNat zi).kind) (prX ex (ex.getD i zi).r.toNat)
  else if (ex.getD i zi).kind==8 then zJ (zR (ex.getD (ex.getD i zi).l.toNat zi).kind) (prX ex (ex.getD i zi).l.toNat)++tStar++zJ (zaa (ex.getD (ex.getD i zi).r.toNat zi).kind) (prX ex (ex.getD i zi).r.toNat)
  else sNone:=by
 rw[prX,prE]
 have I:=fun q=>zfZ h (i:=i) q
 generalize ex.getD i zi=x at I ⊢
 have j: ∀q:zaa x.kind=true,prE ex i x.l.toNat=prX ex x.l.toNat∧prE ex i x.r.toNat=prX ex x.r.toNat:=fun q=>by
  have:=I q
  exact⟨ziP h _ _ _ (by omega) (by omega),ziP h _ _ _ (by omega) (by omega)⟩
 by_cases z:(x.kind==6)=true
 ·rw[(j (zbH (.inl z))).1,(j (zbH (.inl z))).2]
 ·by_cases H:(x.kind==7)=true
  ·rw[(j (zbH (.inr (.inl H)))).1,(j (zbH (.inr (.inl H)))).2]
  ·by_cases A:(x.kind==8)=true
   ·rw[(j (zbH (.inr (.inr A)))).1,(j (zbH (.inr (.inr A)))).2]
   ·simp only[z,H,A,Bool.false_eq_true,↓reduceIte]
def zau (ex:List Ex) (k:Int):Nat:=(ex.map fun x=>if zaa x.kind then (if x.l==k then 1 else 0)+(if x.r==k then 1 else 0) else 0).sum
def zaN (st:List Sm) (k:Int):Nat:=(st.map fun s=>if s.expr==k then 1 else 0).sum
structure Tree (m:Md):Prop where
 ahead:zb3 m.ex
 stm: ∀s∈m.st,0≤s.expr∧s.expr<(m.ex.length:Int)
 once: ∀k,k<m.ex.length→zau m.ex (k:Int)+zaN m.st (k:Int)=1
def sm (k:Nat) (f:Nat→Nat):Nat:=((List.range k).map f).sum
theorem zmA (f:Nat→Nat):sm 0 f=0:=rfl
theorem zdG (k:Nat) (f:Nat→Nat):sm (k+1) f=sm k f+f k:=by
 unfold sm
 rw[List.range_succ,List.map_append,List.sum_append]
 simp
theorem zhn (k:Nat) (f g:Nat→Nat):sm k (fun j=>f j+g j)=sm k f+sm k g:=by
 induction k with
 |zero=>rfl
 |succ k q=>rw[zdG,zdG,zdG,q];omega
theorem zdU {k:Nat} {f g:Nat→Nat} (h: ∀j,j<k→f j=g j):sm k f=sm k g:=by
 induction k with
 |zero=>rfl
 |succ k q=>rw[zdG,zdG,q fun j z=>h j (by omega),h k (by omega)]
theorem zho (k:Nat):sm k (fun _=>0)=0:=by
 induction k with
 |zero=>rfl
 |succ k j=>rw[zdG,j]
theorem zhp (f:Nat→Nat) (k:Nat) (l:Int) (H:0≤l) (h:l<(k:Int)):sm k (fun j=>(if l==(j:Int) then 1 else 0)*f j)=f l.toNat:=by
 induction k with
 |zero=>omega
 |succ k q=>
  rw[zdG]
  by_cases e:l=(k:Int)
  ·have z:sm k (fun j=>(if l==(j:Int) then 1 else 0)*f j)=0:=(zdU (g:=fun _=>0) fun j A=>by rw[if_neg (by rw[beq_iff_eq];omega)];omega).trans (zho k)
   rw[z,if_pos (by rw[beq_iff_eq];exact e),show l.toNat=k from by omega]
   omega
  ·rw[q (by omega),if_neg (by rw[beq_iff_eq];exact e)]
   omega
def u1 (x:Ex) (k:Int):Nat:=if zaa x.kind then (if x.l==k then 1 else 0)+(if x.r==k then 1 else 0) else 0
theorem ziQ {ex:List Ex} {i:Nat} (j:i<ex.length) (k:Int):zau (ex.drop i) k=u1 ex[i] k+zau (ex.drop (i+1)) k:=by
 rw[List.drop_eq_getElem_cons j,zau,List.map_cons,List.sum_cons]
 rfl
theorem zmB {ex:List Ex} {i:Nat} (j:ex.length≤i) (k:Int):zau (ex.drop i) k=0:=by rw[List.drop_eq_nil_of_le j];rfl
theorem zmC {ex:List Ex} (h:zb3 ex) (k:Nat) (H:k<ex.length): ∀d j,j+d=k+1→zau (ex.drop j) (k:Int)=zau (ex.drop (k+1)) (k:Int):=by
 intro d
 induction d with
 |zero=>intro j q;rw[show j=k+1 from by omega]
 |succ d z=>
  intro j q
  rw[ziQ (by omega),z (j+1) (by omega)]
  have:u1 ex[j] (k:Int)=0:=by
   unfold u1
   split
   ·next A=>
    have:=h j _ (List.getElem?_eq_getElem (by omega)) A
    rw[if_neg (by rw[beq_iff_eq];omega),if_neg (by rw[beq_iff_eq];omega)]
   ·rfl
  omega
def wt (ex:List Ex) (i:Nat):Nat:=(prX ex i).size
def cost (x:Ex):Nat:=x.name.size+x.field.size+40
theorem zga (b:Bool) (t:ByteArray):(zJ b t).size≤t.size+2:=by
 unfold zJ
 split
 ·rw[ByteArray.size_append,ByteArray.size_append]
  show 1+t.size+1≤t.size+2
  omega
 ·omega
theorem zhq (n:Int) (q: -9223372036854775808≤n) (j:n≤9223372036854775807):(strOfNums (zbR n)).size≤21:=by
 rw[strOfNums_size]
 by_cases h:n<0
 ·rw[zhk h,List.length_cons,zc8]
  have:=(zd0 (-n) (by omega) (by omega)).2.1
  omega
 ·rw[zhl (by omega),zc8]
  have:=(zd0 n (by omega) (by omega)).2.1
  omega
theorem zmD {ex:List Ex} (h:zb3 ex) (i:Nat) (A: -9223372036854775808≤(ex.getD i zi).num∧(ex.getD i zi).num≤9223372036854775807):
  wt ex i≤cost (ex.getD i zi)+if zaa (ex.getD i zi).kind then wt ex (ex.getD i zi).l.toNat+wt ex (ex.getD i zi).r.toNat else 0:=by
 unfold wt
 rw[zhm h]
 generalize ex.getD i zi=x at A ⊢
 unfold cost
 by_cases H:(x.kind==1)=true
 ·rw[if_pos H]
  have:=zhq x.num A.1 A.2
  omega
 ·rw[if_neg H]
  by_cases I:(x.kind==2)=true
  ·rw[if_pos I];omega
  ·rw[if_neg I]
   by_cases J:(x.kind==3)=true
   ·rw[if_pos J,ByteArray.size_append]
    have:cParens.size=2:=rfl
    omega
   ·rw[if_neg J]
    by_cases M:(x.kind==4)=true
    ·rw[if_pos M,ByteArray.size_append,ByteArray.size_append]
     have:cPoint.size=1:=rfl
     omega
    ·rw[if_neg M]
     by_cases L:(x.kind==5)=true
     ·rw[if_pos L,ByteArray.size_append,ByteArray.size_append,ByteArray.size_append]
      have:cPoint.size=1:=rfl
      have:cParens.size=2:=rfl
      omega
     ·rw[if_neg L]
      by_cases j:(x.kind==6)=true
      ·rw[if_pos j,if_pos (zbH (.inl j)),ByteArray.size_append,ByteArray.size_append]
       have:=zga (zR (ex.getD x.r.toNat zi).kind) (prX ex x.r.toNat)
       have:tPlus.size=3:=rfl
       omega
      ·rw[if_neg j]
       by_cases z:(x.kind==7)=true
       ·rw[if_pos z,if_pos (zbH (.inr (.inl z))),ByteArray.size_append,ByteArray.size_append]
        have:=zga (zR (ex.getD x.r.toNat zi).kind) (prX ex x.r.toNat)
        have:tMinus.size=3:=rfl
        omega
       ·rw[if_neg z]
        by_cases q:(x.kind==8)=true
        ·rw[if_pos q,if_pos (zbH (.inr (.inr q))),ByteArray.size_append,ByteArray.size_append]
         have:=zga (zR (ex.getD x.l.toNat zi).kind) (prX ex x.l.toNat)
         have:=zga (zaa (ex.getD x.r.toNat zi).kind) (prX ex x.r.toNat)
         have:tStar.size=3:=rfl
         omega
        ·rw[if_neg q]
         show 0≤_
         omega
def zaW (ex:List Ex):Prop:=∀x∈ex,-9223372036854775808≤x.num∧x.num≤9223372036854775807
theorem zdV {ex:List Ex} {i:Nat} (j:i<ex.length):ex.getD i zi=ex[i]:=by simp[List.getD,List.getElem?_eq_getElem j]
theorem zmE (f:Nat→Nat) (n:Nat): ∀q:List Sm,(∀s∈q,0≤s.expr∧s.expr<(n:Int))→(q.map fun s=>f s.expr.toNat).sum=sm n (fun j=>zaN q (j:Int)*f j):=by
 intro q
 induction q with
 |nil=>intro _;show 0=_;rw[←zho n];exact zdU fun j _=>by simp[zaN]
 |cons s q A=>
  intro h
  rw[List.map_cons,List.sum_cons,A fun x H=>h x (List.mem_cons_of_mem _ H)]
  have z:=h s List.mem_cons_self
  rw[←zhp f n s.expr z.1 z.2,←zhn]
  refine zdU fun j _=>?_
  simp only[zaN,List.map_cons,List.sum_cons]
  rw[Nat.add_mul]
theorem zmF {m:Md} (t:Tree m) (O:zaW m.ex): ∀d k,k+d=m.ex.length→
  (m.st.map fun s=>wt m.ex s.expr.toNat).sum≤sm k (fun j=>(zaN m.st (j:Int)+zau (m.ex.drop k) (j:Int))*wt m.ex j)+((m.ex.drop k).map cost).sum:=by
 intro d
 induction d with
 |zero=>
  intro k H
  have:k=m.ex.length:=by omega
  subst this
  rw[zmE _ _ _ t.stm]
  refine Nat.le_trans (Nat.le_of_eq ?_) (Nat.le_add_right _ _)
  refine zdU fun j _=>?_
  rw[zmB (Nat.le_refl _),Nat.add_zero]
 |succ d I=>
  intro k H
  have q:k<m.ex.length:=by omega
  refine Nat.le_trans (I (k+1) (by omega)) ?_
  have M:zaN m.st (k:Int)+zau (m.ex.drop (k+1)) (k:Int)=1:=by
   have:=t.once k q
   rw[←zmC t.ahead k q (k+1) 0 (by omega),List.drop_zero]
   omega
  rw[zdG,M,Nat.one_mul,List.drop_eq_getElem_cons q,List.map_cons,List.sum_cons]
  have J:=zmD t.ahead k (by rw[zdV q];exact O _ (List.getElem_mem q))
  rw[zdV q] at J
  have N:sm k (fun j=>(zaN m.st (j:Int)+zau (m.ex.drop k) (j:Int))*wt m.ex j)=sm k (fun j=>(zaN m.st (j:Int)+zau (m.ex.drop (k+1)) (j:Int))*wt m.ex j)+if zaa m.ex[k].kind then wt m.ex m.ex[k].l.toNat+wt m.ex m.ex[k].r.toNat else 0:=by
   have e: ∀j:Nat,(zaN m.st (j:Int)+zau (m.ex.drop k) (j:Int))*wt m.ex j=(zaN m.st (j:Int)+zau (m.ex.drop (k+1)) (j:Int))*wt m.ex j+u1 m.ex[k] (j:Int)*wt m.ex j:=fun j=>by
    rw[ziQ q,←Nat.add_mul]
    congr 1
    omega
   rw[zdU fun j _=>e j,zhn]
   congr 1
   split
   ·next A=>
    have z:=t.ahead k _ (List.getElem?_eq_getElem q) A
    rw[←zhp (wt m.ex) k _ z.1 z.2.1,←zhp (wt m.ex) k _ z.2.2.1 z.2.2.2,←zhn]
    refine zdU fun j _=>?_
    rw[u1,if_pos A,Nat.add_mul]
   ·next A=>
    rw[←zho k]
    refine zdU fun j _=>?_
    rw[u1,if_neg A,Nat.zero_mul]
  have L:zau (m.ex[k]::m.ex.drop (k+1))=zau (m.ex.drop k):=by rw[←List.drop_eq_getElem_cons q]
  rw[L,N]
  omega
theorem zmG {m:Md} (t:Tree m) (j:zaW m.ex):(m.st.map fun s=>wt m.ex s.expr.toNat).sum≤(m.ex.map cost).sum:=by
 have:=zmF t j m.ex.length 0 (by omega)
 rw[zmA,Nat.zero_add,List.drop_zero] at this
 exact this
end Go.Proofs.YtjdddblpfbmpaaaGreat
