/- Facts and walks that the theorem stands on. -/
import Derived.WalkKit
import Derived.PlainAid
import Derived.Laws.BytesArg
import Derived.Lib.Strings
import Derived.Deep.RegionLaw
import Derived.Deep.Slices
import Derived.OpenShut
import Derived.Below
namespace Go.Proofs.YtgcbmogmniahjaaGreat
open Go.RowKit Go.PlainAid
abbrev BA:=ByteArray
theorem aLt {α : Type _} {a : Array α} {i : Nat} {b : α} (h : a[i]? =some b) : i<a.size:=(Array.getElem?_eq_some_iff.1 h).1
def inB (a b c:Int):Bool:=decide (b<=a)&&decide (a<=c)
theorem ziH {a b c:Int} (h:b<=a) (k:a<=c):inB a b c=true:=by simp[inB,h,k]
theorem zgZ {a b c:Int} (h: ¬(b<=a/\a<=c)):inB a b c=false:=by
 simp only[inB,Bool.and_eq_false_iff,decide_eq_false_iff_not];omega
theorem zi {a b:Bool} (h:a=b):Ending.returned (.bool a)= .returned (.bool b):=by rw[h]
theorem zbA {k:IntKind} {a b:Int} (h:a=b):Ending.returned (.int k a)= .returned (.int k b):=by rw[h]
theorem za5 {a b:BA} (h:a=b):Ending.returned (.string a)= .returned (.string b):=by rw[h]
theorem zd8 {a b:Int} {c d:Bool} (h:a=b) (k:c=d):Ending.returned (.tuple #[.int .i64 a,.bool c])= .returned (.tuple #[.int .i64 b,.bool d]):=by rw[h,k]
def ziI (s:BA):Nat->Int
 |0=>0
 |k+1=>ziI s k*256+bt s k
def zmJ (s:BA) (n:Int):Bool:=inB n 1 7&&decide (n<=s.size)
def rfV (s:BA) (n:Int):Int:=if zmJ s n then ziI s n.toNat else 0
abbrev sNone:BA:={data:=#[]}
theorem zg (w:World) (o:Obj):(w.alloc o).heap.size=w.heap.size+1:=by show (w.heap.push _).size=_;simp
theorem _root_.Go.RowKit.Hid.o {p:Prop} (h:Go.RowKit.Hid p):p:=h
theorem zc {p:Prop} (h:p):Hid p:=h
theorem zcX {α:Type} {l:List α} {j:Nat} {x:α} (h:l[j]? =some x):l.take (j+1)=l.take j++[x]:=by
 rw[List.take_add_one,h];rfl
def zcG (w:World) (base:Nat) (e:TypeId) (v:Value) (n:Nat) (xs:List Int):Prop:=w.ownsRow base e 1 v n (xs.map (Value.int .u8))
theorem ziJ {P:Program} {w:World} {src dst e:TypeId} (J:P.underlying src=some (.slice e)) (I:P.underlying e=some (.int .u8)) (H:P.underlying dst=some .string)
  {base n:Nat} {v:Value} {xs:List Int} (h:zcG w base e v n xs):(convert src dst v).run P w= .ok (.string (strOfNums xs)) w:=by
 obtain⟨A,O⟩:=h;rw[List.length_map,Nat.mul_one] at A;rcases O with ⟨rfl,rfl⟩|⟨g,q,D,rfl,M,N,U,K,E,L⟩
 ·obtain rfl:=List.length_eq_zero_iff.1 A;exact run_convert_bytes_nil w src e J I 0 0 dst H
 ·refine run_convert_bytes_arg w src e J I g 0 n q xs A (fun i V=>?_) dst H;have z:w.ownsRow base e 1 (.slice (some ⟨g,0,none⟩) n q) n (xs.map (Value.int .u8)):=⟨by simpa using A,.inr ⟨g,q,D,rfl,M,N,U,K,E,L⟩⟩;have:=z.cellAt i (by omega);rw[Nat.zero_add,this];simp[List.getD,List.getElem?_eq_getElem (show i<xs.length by omega)]
theorem ziK {P:Program} {src dst e:TypeId} (z:P.underlying src=some (.slice e)) (q:P.underlying e=some (.int .u8)) (h:P.underlying dst=some .string)
  (w:World) (x:Int):(convert src dst (.slice (some ⟨w.heap.size,0,none⟩) 1 1)).run P (w.alloc (.cells #[.int .u8 x] e))= .ok (.string (strOfNums [x])) (w.alloc (.cells #[.int .u8 x] e)):=by
 refine run_convert_bytes_arg _ src e z q w.heap.size 0 1 1 [x] rfl (fun i A=>?_) dst h;obtain rfl:i=0:=by omega
 rw[World.cell?_alloc_new];rfl
theorem zmK (xs h:List Int):strOfNums xs++strOfNums h=strOfNums (xs++h):=by
 unfold strOfNums;rw[ByteArray.mk_append_mk,List.map_append]
theorem zfO (x:Int) (h:List Int):strOfNums [x]++strOfNums h=strOfNums (x::h):=zmK [x] h
def zws (L:List Int) (k:Nat):List Int:=L.take k++List.replicate (L.length-k) 0
def zcH (L:List Int) (k:Nat):List Int:=List.replicate (L.length-k) 0++L.drop (L.length-k)
theorem ziL (L:List Int):zcH L 0=List.replicate L.length 0:=by simp[zcH]
theorem ziM (L:List Int) (k:Nat) (x:Int) (h:k<L.length) (w:L[L.length-1-k]? =some x):(zcH L k).set (L.length-1-k) x=zcH L (k+1):=by
 have A:List.replicate (L.length-k) (0:Int)=List.replicate (L.length-(k+1)) 0++[0]:=by
  rw[show L.length-k=(L.length-(k+1))+1 from by omega,List.replicate_succ']
 have z:L.drop (L.length-(k+1))=x::L.drop (L.length-k):=by
  have e:L.length-(k+1)=L.length-1-k:=by omega
  rw[e];have q:L.length-1-k<L.length:=by omega
  rw[List.drop_eq_getElem_cons q];rw[List.getElem?_eq_getElem q] at w;simp only[Option.some.injEq] at w;rw[w,show L.length-1-k+1=L.length-k from by omega]
 unfold zcH;rw[A,z,List.append_assoc,List.set_append_right _ _ (by simp;omega),List.length_replicate,show L.length-1-k-(L.length-(k+1))=0 from by omega];rfl
theorem zha {w:World} {B g n q:Nat} {e:TypeId} {L:List Int} (h:zcG w B e (.slice (some ⟨g,0,none⟩) n q) n L) (j:Nat) (x:Int):
  zcG (w.setCell ⟨g,j,none⟩ (.int .u8 x)) B e (.slice (some ⟨g,0,none⟩) n q) n (L.set j x):=by
 unfold zcG at h ⊢;rw[List.map_set];exact (h.stored j (.int .u8 x)).1
theorem zhb {w:World} {B g n q:Nat} {e:TypeId} {L:List Int} (h:zcG w B e (.slice (some ⟨g,0,none⟩) n q) n L) (j:Nat) (A:j<n): ∃v,w.cell? ⟨g,j,none⟩=some v:=by
 unfold zcG at h;have z:=h.1;rw[List.length_map,Nat.mul_one] at z;rw[h.cellAt j (by omega)];simp[List.getElem?_eq_getElem (show j<L.length by omega)]
theorem zhc {w:World} {B g n q:Nat} {e:TypeId} {L:List Int} (h:zcG w B e (.slice (some ⟨g,0,none⟩) n q) n L) (j:Nat):w.frozen? ⟨g,j,none⟩=false:=World.ownsRow.frozenAt h j
def dl (n:Int):Nat->List Int
 |0=>[]
 |k+1=>(n/2^(8*k)%256)::dl n k
def zmL (n m:Int):Bool:=inB m 1 7&&decide (0<=n)&&decide (n/2^(8*m.toNat)=0)
def fxL (n m:Int):List Int:=if zmL n m then dl n m.toNat else []
def bsl (s:BA):Nat->Nat->List Int
 |_,0=>[]
 |i,m+1=>bt s i::bsl s (i+1) m
theorem zmM (s:BA) (i m:Nat):(bsl s i m).length=m:=by
 induction m generalizing i with
 |zero=>rfl
 |succ m h=>simp[bsl,h]
theorem zmN (s:BA) (i:Nat) (h:i<s.data.toList.length):UInt8.ofNat (bt s i).toNat=s.data.toList[i]:=by
 have q:i<s.size:=by simpa using h
 rw[<-get_bt s i q,Int.toNat_natCast,UInt8.ofNat_toNat];rfl
theorem zmO (s:BA) (i m:Nat) (h:i+m<=s.size):(bsl s i m).map (fun n=>UInt8.ofNat n.toNat)=(s.data.toList.drop i).take m:=by
 induction m generalizing i with
 |zero=>simp[bsl]
 |succ m w=>
  have q:i<s.data.toList.length:=by rw[Array.length_toList];exact Nat.lt_of_lt_of_le (show i<i+(m+1) by omega) h
  rw[bsl,List.map_cons,w (i+1) (by omega),List.drop_eq_getElem_cons q,List.take_succ_cons,zmN s i q]
theorem ziN (s:BA) (k:Nat) (h:k<=s.size):s.extract 0 k=strOfNums (bsl s 0 k):=by
 have e:(s.extract 0 k).data.toList=(strOfNums (bsl s 0 k)).data.toList:=by
  rw[Lib.extract_data,strOfNums_data,zmO s 0 k (by omega),Nat.sub_zero]
 have q:(s.extract 0 k).data=(strOfNums (bsl s 0 k)).data:=by
  rw[<-Array.toArray_toList (xs:=(s.extract 0 k).data),e,Array.toArray_toList]
 have w: ∀a b:BA,a.data=b.data->a=b:=by rintro⟨a⟩ ⟨b⟩ h;cases h;rfl
 exact w _ _ q
theorem zfP {a b:BA} (h:a.data.toList=b.data.toList):a=b:=by
 obtain⟨⟨a⟩⟩:=a;obtain⟨⟨b⟩⟩:=b;simp only at h;rw[h]
theorem zdP (a b:BA):(a.toList==b.toList)=true↔a=b:=by
 rw[beq_iff_eq,Lib.toList_data,Lib.toList_data];exact⟨zfP,fun h=>by rw[h]⟩
theorem zmP (s:BA):s=strOfNums (bsl s 0 s.size):=by
 rw[<-ziN s s.size (Nat.le_refl _)];refine zfP ?_;rw[Lib.extract_data,List.drop_zero,Nat.sub_zero,List.take_of_length_le];rw[Array.length_toList];exact Nat.le_refl _
theorem zdu (s:BA) (k:Nat):bt s k=(s.data.toList.map (fun b=>(b.toNat:Int))).getD k 0:=by
 unfold bt;by_cases h:k<s.size
 ·rw[dif_pos h];have q:k<s.data.toList.length:=by rw[Array.length_toList];exact h
  simp only[List.getD,List.getElem?_map,List.getElem?_eq_getElem q,Option.map_some,Option.getD_some];rfl
 ·rw[dif_neg h];have q:s.data.toList.length<=k:=by rw[Array.length_toList];exact Nat.le_of_not_lt h
  simp[List.getD,List.getElem?_eq_none q]
theorem zfQ (a b:BA):(a++b).data.toList=a.data.toList++b.data.toList:=by
 obtain⟨⟨a⟩⟩:=a;obtain⟨⟨b⟩⟩:=b;rw[ByteArray.mk_append_mk]
def za0 (c:Int) (scr:Bool):Bool:=decide (97<=c/\c<=122)||decide (65<=c/\c<=90)||decide (c=95)||(scr&&decide (c=36))
def zJ (c:Int):Bool:=decide (48<=c/\c<=57)
def zL (scr:Bool) (c:Int):Bool:=za0 c scr||zJ c
def zby (c:Int):Bool:=decide (c≠10)
abbrev zc7 (c:Int):Prop:=c=9∨c=10∨c=13∨c=32
abbrev zbl (c:Int):Prop:=c=123∨c=125∨c=40∨c=41∨c=44∨c=59∨c=61∨c=46∨c=42∨c=43∨c=45
abbrev zbB (c:Int):Prop:=32<=c/\c<=126/\c≠34/\c≠92
theorem zdQ {c:Int} {h:Bool}:za0 c h=true↔(97<=c/\c<=122)∨(65<=c/\c<=90)∨c=95∨(h=true/\c=36):=by simp[za0,or_assoc]
theorem zcI {c:Int}:zJ c=true↔48<=c/\c<=57:=by simp[zJ]
def za1 (p:Int->Bool) (s:BA) (a e:Nat):Prop:=a<=e/\e<=s.size/\(∀j,a<=j->j<e->p (bt s j)=true)/\(e<s.size->p (bt s e)=false)
theorem zfe {p:Int->Bool} {s:BA} {a q w:Nat} (I:za1 p s a q) (E:za1 p s a w):q=w:=by
 obtain⟨D,L,K,J⟩:=I;obtain⟨H,M,z,A⟩:=E;rcases Nat.lt_trichotomy q w with h|h|h
 ·have:=z q D h;rw[J (by omega)] at this;cases this
 ·exact h
 ·have:=K w H h;rw[A (by omega)] at this;cases this
def zbC (s:BA) (a:Nat):Nat->Int
 |0=>0
 |k+1=>zbC s a k*10+(bt s (a+k)-48)
def zaZ (s:BA) (a:Nat) (scr:Bool) (n:Int) (e:Nat):Prop:=
 za1 zJ s a e/\a<e/\(e=a+1∨bt s a≠48)/\n=zbC s a (e-a)/\n<=1000000/\(e<s.size->za0 (bt s e) scr=false)
theorem zmQ {s:BA} {a:Nat} {h:Bool} {z D:Int} {q E:Nat} (A:zaZ s a h z q) (w:zaZ s a h D E):z=D/\q=E:=by
 have H:=zfe A.1 w.1;subst H;exact⟨A.2.2.2.1.trans w.2.2.2.1.symm,rfl⟩
theorem ziO {s:BA} {a:Nat} (k m:Nat) (q: ∀j,j<m->48<=bt s (a+j)) (H:k<=m):0<=zbC s a k/\zbC s a k<=zbC s a m:=by
 have E: ∀m,(∀j,j<m->48<=bt s (a+j))->0<=zbC s a m:=by
  intro m
  induction m with
  |zero=>intro _;exact Int.le_refl _
  |succ m w=>
   intro h;have z:=w (fun j A=>h j (by omega));have D:=h m (by omega);show 0<=zbC s a m*10+(bt s (a+m)-48);omega
 induction m with
 |zero=>
  obtain rfl:k=0:=by omega
  exact⟨Int.le_refl _,Int.le_refl _⟩
 |succ m w=>
  by_cases e:k=m+1
  ·subst e;exact⟨E _ q,Int.le_refl _⟩
  ·obtain⟨z,D⟩:=w (fun j A=>q j (by omega)) (by omega);have I:=q m (by omega);refine⟨z,?_⟩;show _<=zbC s a m*10+(bt s (a+m)-48);omega
def zbz (s:BA) (a e:Nat):Prop:=a+2<=e/\e<=s.size/\e<=a+42/\bt s (e-1)=34/\∀j,a<j->j+1<e->zbB (bt s j)
theorem zmR {s:BA} {a q w:Nat} (H:zbz s a q) (E:zbz s a w):q=w:=by
 obtain⟨L,K,O,I,D⟩:=H;obtain⟨M,N,J,A,z⟩:=E;rcases Nat.lt_trichotomy q w with h|h|h
 ·exact absurd I (z (q-1) (by omega) (by omega)).2.2.1
 ·exact h
 ·exact absurd A (D (w-1) (by omega) (by omega)).2.2.1
structure Tk where
 kind:Int
 text:BA
 num:Int
 pos:Nat
def Tok (s:BA) (scr:Bool) (a:Nat) (t:Tk) (e:Nat):Prop:=
 (za0 (bt s a) scr=true/\za1 (zL scr) s a e/\t=⟨1,s.extract a e,0,a⟩)∨(∃n,zJ (bt s a)=true/\zaZ s a scr n e/\t=⟨2,{data:=#[]},n,a⟩)∨(bt s a=34/\zbz s a e/\t=⟨3,s.extract (a+1) (e-1),0,a⟩)∨(zbl (bt s a)/\t=⟨4,s.extract a (a+1),0,a⟩/\e=a+1)
theorem Tok.name {s:BA} {q:Bool} {a e:Nat} (h:za0 (bt s a) q=true) (w:za1 (zL q) s a e):Tok s q a ⟨1,s.extract a e,0,a⟩ e:=.inl ⟨h,w,rfl⟩
theorem Tok.num {s:BA} {q:Bool} {a e:Nat} {n:Int} (h:zJ (bt s a)=true) (w:zaZ s a q n e):Tok s q a ⟨2,{data:=#[]},n,a⟩ e:=.inr (.inl ⟨n,h,w,rfl⟩)
theorem Tok.str {s:BA} {q:Bool} {a e:Nat} (h:bt s a=34) (w:zbz s a e):Tok s q a ⟨3,s.extract (a+1) (e-1),0,a⟩ e:=.inr (.inr (.inl ⟨h,w,rfl⟩))
theorem Tok.sign {s:BA} {q:Bool} {a:Nat} (h:zbl (bt s a)):Tok s q a ⟨4,s.extract a (a+1),0,a⟩ (a+1):=.inr (.inr (.inr ⟨h,rfl,rfl⟩))
theorem Tok.elim {s:BA} {scr:Bool} {a:Nat} {motive:(t:Tk)->(e:Nat)->Tok s scr a t e->Prop} {t:Tk} {e:Nat} (h:Tok s scr a t e) (name: ∀{e:Nat} (h:za0 (bt s a) scr=true) (he:za1 (zL scr) s a e),motive _ e (.name h he)) (num: ∀{n:Int} {e:Nat} (h:zJ (bt s a)=true) (he:zaZ s a scr n e),motive _ e (.num h he)) (str: ∀{e:Nat} (h:bt s a=34) (he:zbz s a e),motive _ e (.str h he)) (sign: ∀(h:zbl (bt s a)),motive _ _ (.sign h)):motive t e h:=by
 rcases h with ⟨h1,h2,rfl⟩|⟨n,h1,h2,rfl⟩|⟨h1,h2,rfl⟩|⟨h1,rfl,rfl⟩
 ·exact name h1 h2
 ·exact num h1 h2
 ·exact str h1 h2
 ·exact sign h1
theorem zey {c:Int} {q:Bool} (h:za0 c q=true):zJ c=false/\c≠34/\¬zbl c:=by
 rw[zdQ] at h;refine⟨decide_eq_false (by omega),by omega,by unfold zbl;omega⟩
theorem zez {c:Int} (h:zJ c=true):c≠34/\¬zbl c:=by
 rw[zcI] at h;exact⟨by omega,by unfold zbl;omega⟩
theorem zmS {s:BA} {D:Bool} {a:Nat} {I H:Tk} {J K:Nat} (L:Tok s D a I J) (E:Tok s D a H K):I=H/\J=K:=by
 cases L using Tok.elim with
 |name h A=>
  have z:=zey h;cases E using Tok.elim with
  |name q w=>have:=zfe A w;subst this;exact⟨rfl,rfl⟩
  |num q w=>rw[z.1] at q;cases q
  |str q w=>exact absurd q z.2.1
  |sign q=>exact absurd q z.2.2
 |num h A=>
  have z:=zez h;cases E using Tok.elim with
  |name q w=>rw[(zey q).1] at h;cases h
  |num q w=>obtain⟨rfl,rfl⟩:=zmQ A w;exact⟨rfl,rfl⟩
  |str q w=>exact absurd q z.1
  |sign q=>exact absurd q z.2
 |str h A=>
  cases E using Tok.elim with
  |name q w=>exact absurd h (zey q).2.1
  |num q w=>exact absurd h (zez q).1
  |str q w=>have:=zmR A w;subst this;exact⟨rfl,rfl⟩
  |sign q=>rw[h] at q;unfold zbl at q;omega
 |sign h=>
  cases E using Tok.elim with
  |name q w=>exact absurd h (zey q).2.2
  |num q w=>exact absurd h (zez q).2
  |str q w=>rw[q] at h;unfold zbl at h;omega
  |sign q=>exact⟨rfl,rfl⟩
theorem ze0 {s:BA} {w:Bool} {a:Nat} {t:Tk} {e:Nat} (z:a<s.size) (h:Tok s w a t e):a<e/\e<=s.size/\t.pos=a:=by
 cases h using Tok.elim with
 |name h q=>
  refine⟨?_,q.2.1,rfl⟩;rcases Nat.lt_or_ge a e with k|k
  ·exact k
  ·have A:e=a:=by have:=q.1;omega
   subst A;have:=q.2.2.2 z;simp[zL,h] at this
 |num h q=>exact⟨q.2.1,q.1.2.1,rfl⟩
 |str h q=>exact⟨by have:=q.1;omega,q.2.1,rfl⟩
 |sign h=>exact⟨by omega,by omega,rfl⟩
abbrev zcu (s:BA) (a:Nat):Prop:=bt s a=47/\a+1<s.size/\bt s (a+1)=47
def zmT (s:BA) (P:Nat->Nat->Prop):Prop:=P s.size s.size/\(∀a,a<s.size->¬zc7 (bt s a)->¬zcu s a->P a a)/\(∀a b,a<s.size->zc7 (bt s a)->P (a+1) b->P a b)/\∀a c b,a<s.size->zcu s a->za1 zby s a c->P c b->P a b
def Skip (s:BA) (a b:Nat):Prop:=∀P,zmT s P->P a b
theorem Skip.done {s:BA}:Skip s s.size s.size:=fun _ k=>k.1
theorem Skip.stop {s:BA} {a:Nat} (h:a<s.size) (q: ¬zc7 (bt s a)) (w: ¬zcu s a):Skip s a a:=fun _ k=>k.2.1 a h q w
theorem Skip.blank {s:BA} {a b:Nat} (h:a<s.size) (q:zc7 (bt s a)) (r:Skip s (a+1) b):Skip s a b:=fun P k=>k.2.2.1 a b h q (r P k)
theorem Skip.comment {s:BA} {a c b:Nat} (h:a<s.size) (q:zcu s a) (w:za1 zby s a c) (r:Skip s c b):Skip s a b:=fun P k=>k.2.2.2 a c b h q w (r P k)
theorem Skip.ind {s:BA} {motive:(a b:Nat)->Skip s a b->Prop} {a b:Nat} (h:Skip s a b) (done:motive _ _ .done) (stop: ∀{a:Nat} (h:a<s.size) (h1: ¬zc7 (bt s a)) (h2: ¬zcu s a),motive a a (.stop h h1 h2)) (blank: ∀{a b:Nat} (h:a<s.size) (h1:zc7 (bt s a)) (r:Skip s (a+1) b),motive _ _ r->motive a b (.blank h h1 r)) (comment: ∀{a c b:Nat} (h:a<s.size) (h1:zcu s a) (hc:za1 zby s a c) (r:Skip s c b),motive _ _ r->motive a b (.comment h h1 hc r)):motive a b h:=
 (h (fun a b=>∃k,motive a b k) ⟨⟨_,done⟩,fun _ h h1 h2=>⟨_,stop h h1 h2⟩,fun _ _ h h1 ⟨r,k⟩=>⟨_,blank h h1 r k⟩,fun _ _ _ h h1 hc ⟨r,k⟩=>⟨_,comment h h1 hc r k⟩⟩).2
theorem Skip.elim {s:BA} {motive:(a b:Nat)->Skip s a b->Prop} {a b:Nat} (h:Skip s a b) (done:motive _ _ .done) (stop: ∀{a:Nat} (h:a<s.size) (h1: ¬zc7 (bt s a)) (h2: ¬zcu s a),motive a a (.stop h h1 h2)) (blank: ∀{a b:Nat} (h:a<s.size) (h1:zc7 (bt s a)) (r:Skip s (a+1) b),motive a b (.blank h h1 r)) (comment: ∀{a c b:Nat} (h:a<s.size) (h1:zcu s a) (hc:za1 zby s a c) (r:Skip s c b),motive a b (.comment h h1 hc r)):motive a b h:=
 h.ind done stop (fun h h1 r _=>blank h h1 r) (fun h h1 hc r _=>comment h h1 hc r)
theorem ziP {s:BA} {a:Nat} (h:zcu s a): ¬zc7 (bt s a):=by rw[h.1];unfold zc7;omega
theorem ziQ {s:BA} {a E b2:Nat} (H:Skip s a E):Skip s a b2->E=b2:=by
 induction H using Skip.ind with
 |done=>
  intro q;generalize J:s.size=x at q;cases q using Skip.elim with
  |done=>rfl
  |stop h _ _=>omega
  |blank h _ _=>omega
  |comment h _ _ _=>omega
 |stop h w z=>
  intro q;cases q using Skip.elim with
  |done=>rfl
  |stop _ _ _=>rfl
  |blank _ k _=>exact absurd k w
  |comment _ k _ _=>exact absurd k z
 |blank h k _ A=>
  intro q;cases q using Skip.elim with
  |done=>exact absurd h (Nat.lt_irrefl _)
  |stop _ w _=>exact absurd k w
  |blank _ _ r=>exact A r
  |comment _ w _ _=>exact absurd k (ziP w)
 |comment h k I _ A=>
  intro q;cases q using Skip.elim with
  |done=>exact absurd h (Nat.lt_irrefl _)
  |stop _ _ z=>exact absurd k z
  |blank _ w _=>exact absurd w (ziP k)
  |comment _ _ D r=>have:=zfe I D;subst this;exact A r
theorem zhd {s:BA} {a b:Nat} (h:Skip s a b):a<=b/\b<=s.size:=by
 induction h using Skip.ind with
 |done=>exact⟨Nat.le_refl _,Nat.le_refl _⟩
 |stop h _ _=>exact⟨Nat.le_refl _,by omega⟩
 |blank h _ _ q=>exact⟨by omega,q.2⟩
 |comment h _ w _ q=>exact⟨by have:=w.1;omega,q.2⟩
def LxK (s:BA) (scr:Bool) (P:Nat->Nat->Except Nat (List Tk)->Prop):Prop:=(∀n,P s.size n (.ok []))/\(∀a n,a<s.size->(4000<=n∨∀t e,¬Tok s scr a t e)->P a n (.error a))/\∀a n e b t r,a<s.size->n<4000->Tok s scr a t e->Skip s e b->P b (n+1) r->P a n (r.map (t:: ·))
def Lx (s:BA) (scr:Bool) (a n:Nat) (r:Except Nat (List Tk)):Prop:=∀P,LxK s scr P->P a n r
theorem Lx.done {s:BA} {h:Bool} {n:Nat}:Lx s h s.size n (.ok []):=fun _ k=>k.1 n
theorem Lx.bad {s:BA} {q:Bool} {a n:Nat} (h:a<s.size) (w:4000<=n∨∀t e,¬Tok s q a t e):Lx s q a n (.error a):=fun _ k=>k.2.1 a n h w
theorem Lx.tok {s:BA} {q:Bool} {a n e b:Nat} {t:Tk} {r:Except Nat (List Tk)} (h:a<s.size) (D:n<4000) (z:Tok s q a t e) (A:Skip s e b) (w:Lx s q b (n+1) r):Lx s q a n (r.map (t:: ·)):=fun P k=>k.2.2 a n e b t r h D z A (w P k)
theorem Lx.ind {s:BA} {scr:Bool} {motive:(a n:Nat)->(r:Except Nat (List Tk))->Lx s scr a n r->Prop} {a n:Nat} {r:Except Nat (List Tk)} (h:Lx s scr a n r) (done: ∀{n:Nat},motive _ n _ .done) (bad: ∀{a n:Nat} (h:a<s.size) (h1:4000<=n∨∀t e,¬Tok s scr a t e),motive a n _ (.bad h h1)) (tok: ∀{a n e b:Nat} {t:Tk} {r:Except Nat (List Tk)} (h:a<s.size) (hn:n<4000) (ht:Tok s scr a t e) (hs:Skip s e b) (hr:Lx s scr b (n+1) r),motive _ _ _ hr->motive a n _ (.tok h hn ht hs hr)):motive a n r h:=
 (h (fun a n r=>∃k,motive a n r k) ⟨fun _=>⟨_,done⟩,fun _ _ h h1=>⟨_,bad h h1⟩,fun _ _ _ _ _ _ h hn ht hs ⟨hr,k⟩=>⟨_,tok h hn ht hs hr k⟩⟩).2
theorem Lx.elim {s:BA} {scr:Bool} {motive:(a n:Nat)->(r:Except Nat (List Tk))->Lx s scr a n r->Prop} {a n:Nat} {r:Except Nat (List Tk)} (h:Lx s scr a n r) (done: ∀{n:Nat},motive _ n _ .done) (bad: ∀{a n:Nat} (h:a<s.size) (h1:4000<=n∨∀t e,¬Tok s scr a t e),motive a n _ (.bad h h1)) (tok: ∀{a n e b:Nat} {t:Tk} {r:Except Nat (List Tk)} (h:a<s.size) (hn:n<4000) (ht:Tok s scr a t e) (hs:Skip s e b) (hr:Lx s scr b (n+1) r),motive a n _ (.tok h hn ht hs hr)):motive a n r h:=
 h.ind done bad (fun h hn ht hs hr _=>tok h hn ht hs hr)
theorem zmU {s:BA} {w:Bool} {a n:Nat} {H D:Except Nat (List Tk)} (J:Lx s w a n H):Lx s w a n D->H=D:=by
 induction J using Lx.ind generalizing D with
 |done=>
  intro q;generalize M:s.size=x at q;cases q using Lx.elim with
  |done=>rfl
  |bad h _=>omega
  |tok h _ _ _ _=>omega
 |bad h k=>
  intro q;cases q using Lx.elim with
  |done=>exact absurd h (Nat.lt_irrefl _)
  |bad _ _=>rfl
  |tok _ L z _ _=>exact k.elim (fun k=>by omega) fun k=>absurd z (k _ _)
 |tok h L z K _ I=>
  intro q;cases q using Lx.elim with
  |done=>exact absurd h (Nat.lt_irrefl _)
  |bad _ k=>exact k.elim (fun k=>by omega) fun k=>absurd z (k _ _)
  |tok _ _ A E r=>
   obtain⟨rfl,rfl⟩:=zmS z A;have:=ziQ K E;subst this;rw[I r]
def zai (s:BA) (scr:Bool) (r:Except Nat (List Tk)):Prop:=∃a,Skip s 0 a/\Lx s scr a 0 r
theorem zmV {s:BA} {h:Bool} {w q:Except Nat (List Tk)} (H:zai s h w) (A:zai s h q):w=q:=by
 obtain⟨a,I,D⟩:=H;obtain⟨b,z,E⟩:=A;have:=ziQ I z;subst this;exact zmU D E
structure Ex where
 kind:Int
 num:Int
 name:BA
 field:BA
 l:Int
 r:Int
structure Sm where
 kind:Int
 name:BA
 expr:Int
structure Im where
 spec:BA
 first:BA
 loc:BA
structure Ep where
 kind:Int
 name:BA
 loc:BA
 spec:BA
structure Cx where
 ts:List Tk
 fin:Nat
 scr:Bool
structure PS where
 pos:Nat
 rq:List BA
 im:List Im
 ep:List Ep
 st:List Sm
 ex:List Ex
 la:List Ep
abbrev PR:=Except Nat PS
abbrev zak:BA:={data:=#[105,109,112,111,114,116]}
abbrev zaj:BA:={data:=#[101,120,112,111,114,116]}
abbrev sDefault:BA:={data:=#[100,101,102,97,117,108,116]}
abbrev zF:BA:={data:=#[108,101,116]}
abbrev zU:BA:={data:=#[102,117,110,99,116,105,111,110]}
abbrev ze1:BA:={data:=#[114,101,116,117,114,110]}
abbrev zax:BA:={data:=#[112,114,105,110,116]}
abbrev za9:BA:={data:=#[116,104,114,111,119]}
abbrev zbQ:BA:={data:=#[102,97,105,108]}
abbrev zaD:BA:={data:=#[117,110,100,101,102]}
abbrev sAs:BA:={data:=#[97,115]}
abbrev zV:BA:={data:=#[102,114,111,109]}
abbrev zck:BA:={data:=#[42,100,101,102,97,117,108,116]}
abbrev zo:BA:={data:=#[40]}
abbrev za6:BA:={data:=#[41]}
abbrev zx:BA:={data:=#[42]}
abbrev zcv:BA:={data:=#[43]}
abbrev zbD:BA:={data:=#[44]}
abbrev zbm:BA:={data:=#[45]}
abbrev cPoint:BA:={data:=#[46]}
abbrev cSemi:BA:={data:=#[59]}
abbrev cEq:BA:={data:=#[61]}
abbrev zM:BA:={data:=#[123]}
abbrev zb0:BA:={data:=#[125]}
def bd {α β:Type} (x:Except Nat α) (f:α->Except Nat β):Except Nat β:=
 match x with
 | .ok a=>f a
 | .error e=>.error e
theorem zA {α β:Type} (a:α) (f:α->Except Nat β):bd (.ok a) f=f a:=rfl
theorem ze2 {α β:Type} (e:Nat) (f:α->Except Nat β):bd (.error e) f= .error e:=rfl
theorem zO {α β γ:Type} (x:Except Nat α) (f:α->Except Nat β) (g:β->Except Nat γ):bd (bd x f) g=bd x fun a=>bd (f a) g:=by cases x<;>rfl
theorem zaf {α β:Type} {x:Except Nat α} {f g:α->Except Nat β} (h: ∀a,x= .ok a->f a=g a):bd x f=bd x g:=by
 cases x with
 |ok a=>exact h a rfl
 |error e=>rfl
theorem zn {α β:Type} {x:Except Nat α} {f:α->Except Nat β} {b:β} (h:bd x f= .ok b): ∃a,x= .ok a/\f a= .ok b:=by
 cases x with
 |ok a=>exact⟨a,rfl,h⟩
 |error e=>cases h
def ze (C:Cx) (i:Nat):Tk:=C.ts.getD i ⟨0,sNone,0,C.fin⟩
def zs (C:Cx) (i:Nat):Nat:=(ze C i).pos
def isT (C:Cx) (i:Nat) (k:Int) (x:BA):Bool:=((ze C i).kind==k)&&((ze C i).text.toList==x.toList)
def adv (q:PS):PS:={q with pos:=q.pos+1}
def zd (C:Cx) (k:Int) (x:BA) (q:PS):PR:=if isT C q.pos k x then .ok (adv q) else .error (zs C q.pos)
def zu (x:BA) (scr:Bool):Bool:=
 x.toList==[105,109,112,111,114,116]||x.toList==[101,120,112,111,114,116]||x.toList==[100,101,102,97,117,108,116]||x.toList==[108,101,116]||x.toList==[102,117,110,99,116,105,111,110]||x.toList==[114,101,116,117,114,110]||x.toList==[112,114,105,110,116]||x.toList==[116,104,114,111,119]
  ||((x.toList==[102,97,105,108]||x.toList==[117,110,100,101,102])&&scr)
def zG (C:Cx) (i:Nat) (o:Bool):Bool:=((ze C i).kind==1)&&(!zu (ze C i).text C.scr||(o&&((ze C i).text.toList==[100,101,102,97,117,108,116])))
def zm (C:Cx) (o:Bool) (q:PS):Except Nat (PS×BA):=if zG C q.pos o then .ok (adv q,(ze C q.pos).text) else .error (zs C q.pos)
def zaQ (l:List BA) (x:BA):Bool:=l.any fun y=>y.toList==x.toList
def zK (C:Cx) (q:PS):Except Nat (PS×BA):=
 if (ze C q.pos).kind==3 then
  if zaQ q.rq (ze C q.pos).text then .ok (adv q,(ze C q.pos).text)
  else if 40<=q.rq.length then .error (zs C q.pos)
  else .ok ({adv q with rq:=q.rq++[(ze C q.pos).text]},(ze C q.pos).text)
 else .error (zs C q.pos)
def zal (C:Cx) (x:Im) (q:PS):PR:=if 40<=q.im.length then .error (zs C (q.pos-1)) else .ok {q with im:=q.im++[x]}
def zp (C:Cx) (x:Ep) (q:PS):PR:=
 if 40<=q.ep.length+q.la.length then .error (zs C (q.pos-1))
 else if x.loc.toList==[42,100,101,102,97,117,108,116] then .ok {q with la:=q.la++[x]} else .ok {q with ep:=q.ep++[x]}
def zX (C:Cx) (k:Int) (n:BA) (q:PS):PR:=if 80<=q.st.length then .error (zs C (q.pos-1)) else .ok {q with st:=q.st++[⟨k,n,(q.ex.length:Int)-1⟩]}
def zQ (C:Cx) (x:Ex) (q:PS):PR:=if 300<=q.ex.length then .error (zs C (q.pos-1)) else .ok {q with ex:=q.ex++[x]}
def zbE (C:Cx) (n:BA) (q:PS):PR:=
 if isT C q.pos 4 zo then bd (bd (zd C 4 zo q) (zd C 4 za6)) (zQ C ⟨3,0,n,sNone,0,0⟩) else zQ C ⟨2,0,n,sNone,0,0⟩ q
def zbR (C:Cx) (n f:BA) (q:PS):PR:=
 if isT C q.pos 4 zo then bd (bd (zd C 4 zo q) (zd C 4 za6)) (zQ C ⟨5,0,n,f,0,0⟩) else zQ C ⟨4,0,n,f,0,0⟩ q
abbrev NT:Type:=Option (Option (Option (Option Unit)))
abbrev NT.sum:NT:=none
abbrev NT.sumT:NT:=some none
abbrev NT.prod:NT:=some (some none)
abbrev NT.prodT:NT:=some (some (some none))
abbrev NT.part:NT:=some (some (some (some ())))
theorem NT.elim {motive:NT->Prop} (nt:NT) (sum:motive .sum) (sumT:motive .sumT) (prod:motive .prod) (prodT:motive .prodT) (part:motive .part):motive nt:=
 match nt with
 |none=>sum
 |some none=>sumT
 |some (some none)=>prod
 |some (some (some none))=>prodT
 |some (some (some (some ())))=>part
def zdv (C:Cx) (i:Nat):Int:=if isT C i 4 zbm then 7 else 6
def ev (C:Cx):Nat->NT->Nat->PS->PR
 |0,_,_,_=>.error 0
 |f+1,none,d,q=>bd (ev C f .prod d q) (ev C f .sumT d)
 |f+1,some none,d,q=>
  if isT C q.pos 4 zcv||isT C q.pos 4 zbm then
   bd (bd (ev C f .prod d (adv q)) fun q'=>zQ C ⟨zdv C q.pos,0,sNone,sNone,(q.ex.length:Int)-1,(q'.ex.length:Int)-1⟩ q') (ev C f .sumT d)
  else .ok q
 |f+1,some (some none),d,q=>bd (ev C f .part d q) (ev C f .prodT d)
 |f+1,some (some (some none)),d,q=>
  if isT C q.pos 4 zx then
   bd (bd (ev C f .part d (adv q)) fun q'=>zQ C ⟨8,0,sNone,sNone,(q.ex.length:Int)-1,(q'.ex.length:Int)-1⟩ q') (ev C f .prodT d)
  else .ok q
 |f+1,some (some (some (some ()))),d,q=>
  if (ze C q.pos).kind==2 then zQ C ⟨1,(ze C q.pos).num,sNone,sNone,0,0⟩ (adv q)
  else if isT C q.pos 4 zo then
   if 20<=d then .error (zs C q.pos) else bd (ev C f .sum (d+1) (adv q)) (zd C 4 za6)
  else if C.scr&&isT C q.pos 1 zaD then zbE C zaD (adv q)
  else bd (zm C false q) fun x=>if isT C x.1.pos 4 cPoint then bd (zm C true (adv x.1)) fun y=>zbR C x.2 y.2 y.1 else zbE C x.2 x.1
def nd (C:Cx) (nt:NT) (q:PS):Nat:=
 5*(C.ts.length-q.pos)+match nt with
  | .sum=>3
  | .prod=>2
  |_=>1
def pE (C:Cx) (nt:NT) (d:Nat) (q:PS):PR:=ev C (nd C nt q) nt d q
theorem zdR {C:Cx} {i:Nat} (h:C.ts.length<=i):ze C i=⟨0,sNone,0,C.fin⟩:=by simp[ze,List.getD,List.getElem?_eq_none h]
theorem za7 {C:Cx} {i:Nat} {k:Int} {x:BA} (h:isT C i k x=true) (q:k≠0):i<C.ts.length:=by
 rcases Nat.lt_or_ge i C.ts.length with g|g
 ·exact g
 ·simp only[isT,zdR g,Bool.and_eq_true,beq_iff_eq] at h;exact absurd h.1.symm q
theorem zfR {C:Cx} {i:Nat} {k:Int} (h:((ze C i).kind==k)=true) (q:k≠0):i<C.ts.length:=by
 rcases Nat.lt_or_ge i C.ts.length with g|g
 ·exact g
 ·simp only[zdR g,beq_iff_eq] at h;exact absurd h.symm q
theorem zff {C:Cx} {i:Nat} {o:Bool} (h:zG C i o=true):i<C.ts.length:=by
 simp only[zG,Bool.and_eq_true] at h;exact zfR h.1 (by decide)
theorem zbS {C:Cx} {k:Int} {x:BA} {q q':PS} (h:zd C k x q= .ok q'):q'=adv q/\isT C q.pos k x=true:=by
 unfold zd at h
 split at h
 ·next g=>exact⟨by cases h;rfl,g⟩
 ·cases h
theorem zb1 {C:Cx} {o:Bool} {q:PS} {y:PS×BA} (h:zm C o q= .ok y):y=(adv q,(ze C q.pos).text)/\zG C q.pos o=true:=by
 unfold zm at h
 split at h
 ·next g=>exact⟨by cases h;rfl,g⟩
 ·cases h
theorem zb2 {C:Cx} {x:Ex} {q q':PS} (h:zQ C x q= .ok q'):q'={q with ex:=q.ex++[x]}/\q.ex.length<300:=by
 unfold zQ at h
 split at h
 ·cases h
 ·cases h;exact⟨rfl,by omega⟩
theorem zz (q:PS):(adv q).pos=q.pos+1:=rfl
theorem ziR {C:Cx} {n:BA} {q q':PS} (h:zbE C n q= .ok q'):q.pos<=q'.pos:=by
 unfold zbE at h
 split at h
 ·obtain⟨a,w,z⟩:=zn h;obtain⟨b,D,A⟩:=zn w;obtain⟨rfl,_⟩:=zbS D;obtain⟨rfl,_⟩:=zbS A;obtain⟨rfl,_⟩:=zb2 z;show q.pos<=q.pos+1+1;omega
 ·obtain⟨rfl,_⟩:=zb2 h;exact Nat.le_refl _
theorem zmW {C:Cx} {n f:BA} {q q':PS} (h:zbR C n f q= .ok q'):q.pos<=q'.pos:=by
 unfold zbR at h
 split at h
 ·obtain⟨a,w,z⟩:=zn h;obtain⟨b,D,A⟩:=zn w;obtain⟨rfl,_⟩:=zbS D;obtain⟨rfl,_⟩:=zbS A;obtain⟨rfl,_⟩:=zb2 z;show q.pos<=q.pos+1+1;omega
 ·obtain⟨rfl,_⟩:=zb2 h;exact Nat.le_refl _
theorem zfg {C:Cx} (f:Nat): ∀(I:NT) (d:Nat) (q q':PS),ev C f I d q= .ok q'->q.pos<=q'.pos:=by
 induction f with
 |zero=>intro I d q q' h;cases I using NT.elim<;>cases h
 |succ f D=>
  intro I d q q' h;cases I using NT.elim with
  |sum=>
   rw[ev] at h;obtain⟨a,A,w⟩:=zn h;exact Nat.le_trans (D _ _ _ _ A) (D _ _ _ _ w)
  |prod=>
   rw[ev] at h;obtain⟨a,A,w⟩:=zn h;exact Nat.le_trans (D _ _ _ _ A) (D _ _ _ _ w)
  |sumT=>
   rw[ev] at h
   split at h
   ·obtain⟨a,A,w⟩:=zn h;obtain⟨b,J,H⟩:=zn A;obtain⟨rfl,_⟩:=zb2 H;have E:=D _ _ _ _ J;have K:=D _ _ _ _ w;rw[zz] at E;exact Nat.le_trans (by omega:q.pos<=b.pos) K
   ·cases h;exact Nat.le_refl _
  |prodT=>
   rw[ev] at h
   split at h
   ·obtain⟨a,A,w⟩:=zn h;obtain⟨b,J,H⟩:=zn A;obtain⟨rfl,_⟩:=zb2 H;have E:=D _ _ _ _ J;have K:=D _ _ _ _ w;rw[zz] at E;exact Nat.le_trans (by omega:q.pos<=b.pos) K
   ·cases h;exact Nat.le_refl _
  |part=>
   rw[ev] at h
   split at h
   ·obtain⟨rfl,_⟩:=zb2 h;show q.pos<=q.pos+1;omega
   ·split at h
    ·split at h
     ·cases h
     ·obtain⟨a,A,w⟩:=zn h;obtain⟨rfl,_⟩:=zbS w;have E:=D _ _ _ _ A;rw[zz] at E ⊢;omega
    ·split at h
     ·have:=ziR h;rw[zz] at this;omega
     ·obtain⟨y,A,w⟩:=zn h;obtain⟨rfl,_⟩:=zb1 A;simp only at w
      split at w
      ·obtain⟨z,J,H⟩:=zn w;obtain⟨rfl,_⟩:=zb1 J;have:=zmW H;simp only[zz] at this;omega
      ·have:=ziR w;rw[zz] at this;omega
theorem zmX {C:Cx} (f:Nat): ∀(g:Nat) (z:NT) (d:Nat) (q:PS),nd C z q<=f->nd C z q<=g->ev C f z d q=ev C g z d q:=by
 induction f with
 |zero=>intro g z d q h;unfold nd at h;cases z using NT.elim<;>simp at h
 |succ f w=>
  intro g z d q I D;obtain⟨g,rfl⟩: ∃L,g=L+1:=by
   match g with
   |0=>unfold nd at D;cases z using NT.elim<;>simp at D
   |g+1=>exact⟨g,rfl⟩
  cases z using NT.elim with
  |sum=>
   simp only[nd] at I D;rw[ev,ev,w g .prod d q (by simp only[nd];omega) (by simp only[nd];omega)];refine zaf fun a A=>?_;have:=zfg _ _ _ _ _ A;exact w g .sumT d a (by simp only[nd];omega) (by simp only[nd];omega)
  |prod=>
   simp only[nd] at I D;rw[ev,ev,w g .part d q (by simp only[nd];omega) (by simp only[nd];omega)];refine zaf fun a A=>?_;have:=zfg _ _ _ _ _ A;exact w g .prodT d a (by simp only[nd];omega) (by simp only[nd];omega)
  |sumT=>
   simp only[nd] at I D;rw[ev,ev]
   split
   ·next E=>
    have H:q.pos<C.ts.length:=by
     rw[Bool.or_eq_true] at E;exact E.elim (fun k=>za7 k (by decide)) fun k=>za7 k (by decide)
    rw[w g .prod d (adv q) (by simp only[nd,zz];omega) (by simp only[nd,zz];omega)];refine zaf fun a A=>?_;obtain⟨b,K,J⟩:=zn A;obtain⟨rfl,_⟩:=zb2 J;have:=zfg _ _ _ _ _ K;rw[zz] at this;exact w g .sumT d _ (by simp only[nd];omega) (by simp only[nd];omega)
   ·rfl
  |prodT=>
   simp only[nd] at I D;rw[ev,ev]
   split
   ·next E=>
    have H:q.pos<C.ts.length:=za7 E (by decide);rw[w g .part d (adv q) (by simp only[nd,zz];omega) (by simp only[nd,zz];omega)];refine zaf fun a A=>?_;obtain⟨b,K,J⟩:=zn A;obtain⟨rfl,_⟩:=zb2 J;have:=zfg _ _ _ _ _ K;rw[zz] at this;exact w g .prodT d _ (by simp only[nd];omega) (by simp only[nd];omega)
   ·rfl
  |part=>
   simp only[nd] at I D;rw[ev,ev]
   split
   ·rfl
   ·split
    ·next E=>
     have H:q.pos<C.ts.length:=za7 E (by decide)
     split
     ·rfl
     ·rw[w g .sum (d+1) (adv q) (by simp only[nd,zz];omega) (by simp only[nd,zz];omega)]
    ·rfl
theorem zcY {C:Cx} {f d:Nat} {w:NT} {q:PS} (h:nd C w q<=f):ev C f w d q=pE C w d q:=zmX f _ w d q h (Nat.le_refl _)
theorem zbf {C:Cx} {w:NT} {d:Nat} {q q':PS} (h:pE C w d q= .ok q'):q.pos<=q'.pos:=zfg _ _ _ _ _ h
theorem zfh {C:Cx} {h:NT} {d:Nat} {q:PS}:pE C h d q=ev C (nd C h q+1) h d q:=(zcY (Nat.le_succ _)).symm
theorem ziS (C:Cx) (d:Nat) (q:PS):pE C .sum d q=bd (pE C .prod d q) (pE C .sumT d):=by
 rw[zfh,ev,zcY (by simp only[nd];omega)];refine zaf fun a h=>?_;have:=zbf h;exact zcY (by simp only[nd];omega)
theorem ziT (C:Cx) (d:Nat) (q:PS):pE C .prod d q=bd (pE C .part d q) (pE C .prodT d):=by
 rw[zfh,ev,zcY (by simp only[nd];omega)];refine zaf fun a h=>?_;have:=zbf h;exact zcY (by simp only[nd];omega)
theorem zfi (C:Cx) (d:Nat) (q:PS):pE C .sumT d q=
  if isT C q.pos 4 zcv||isT C q.pos 4 zbm then
   bd (bd (pE C .prod d (adv q)) fun q'=>zQ C ⟨zdv C q.pos,0,sNone,sNone,(q.ex.length:Int)-1,(q'.ex.length:Int)-1⟩ q') (pE C .sumT d)
  else .ok q:=by
 rw[zfh,ev]
 split
 ·next h=>
  have w:q.pos<C.ts.length:=by
   rw[Bool.or_eq_true] at h;exact h.elim (fun k=>za7 k (by decide)) fun k=>za7 k (by decide)
  rw[zcY (by simp only[nd,zz];omega)];refine zaf fun a z=>?_;obtain⟨b,D,A⟩:=zn z;obtain⟨rfl,_⟩:=zb2 A;have:=zbf D;rw[zz] at this;exact zcY (by simp only[nd];omega)
 ·rfl
theorem zfS (C:Cx) (d:Nat) (q:PS):pE C .prodT d q=
  if isT C q.pos 4 zx then
   bd (bd (pE C .part d (adv q)) fun q'=>zQ C ⟨8,0,sNone,sNone,(q.ex.length:Int)-1,(q'.ex.length:Int)-1⟩ q') (pE C .prodT d)
  else .ok q:=by
 rw[zfh,ev]
 split
 ·next D=>
  have h:q.pos<C.ts.length:=za7 D (by decide);rw[zcY (by simp only[nd,zz];omega)];refine zaf fun a w=>?_;obtain⟨b,A,z⟩:=zn w;obtain⟨rfl,_⟩:=zb2 z;have:=zbf A;rw[zz] at this;exact zcY (by simp only[nd];omega)
 ·rfl
theorem zbL (C:Cx) (d:Nat) (q:PS):pE C .part d q=
  if (ze C q.pos).kind==2 then zQ C ⟨1,(ze C q.pos).num,sNone,sNone,0,0⟩ (adv q)
  else if isT C q.pos 4 zo then
   if 20<=d then .error (zs C q.pos) else bd (pE C .sum (d+1) (adv q)) (zd C 4 za6)
  else if C.scr&&isT C q.pos 1 zaD then zbE C zaD (adv q)
  else bd (zm C false q) fun x=>if isT C x.1.pos 4 cPoint then bd (zm C true (adv x.1)) fun y=>zbR C x.2 y.2 y.1 else zbE C x.2 x.1:=by
 rw[zfh,ev]
 split
 ·rfl
 ·split
  ·next h=>
   have w:q.pos<C.ts.length:=za7 h (by decide)
   split
   ·rfl
   ·rw[zcY (by simp only[nd,zz];omega)]
  ·rfl
theorem zfj (k:Nat):(0:Int)<10^k:=Int.pow_pos (by omega)
theorem zdS (k:Nat):(10:Int)^(k+1)=10^k*10:=Int.pow_succ _ _
theorem zfk {a b:Nat} (h:a<=b):(10:Int)^a<=10^b:=by
 induction b with
 |zero=>
  obtain rfl:a=0:=by omega
  exact Int.le_refl _
 |succ b q=>
  by_cases e:a=b+1
  ·rw[e];exact Int.le_refl _
  ·have:=q (by omega);have:=zfj b;rw[zdS];omega
theorem ze3 (n:Int) (k:Nat):n/10^k/10=n/10^(k+1):=by
 rw[zdS,Int.ediv_ediv_of_nonneg (Int.le_of_lt (zfj k))]
theorem ze4 (n:Int) (k:Nat) (h:0<=n):0<=n/10^k/\n/10^k<=n:=
 ⟨Int.ediv_nonneg h (Int.le_of_lt (zfj k)),Int.ediv_le_self _ h⟩
def dc:Nat->Int->Nat
 |0,_=>1
 |f+1,q=>if q<10 then 1 else dc f (q/10)+1
theorem zmY (f:Nat) (q:Int) (A:0<=q) (h:q<10^(f+1)):1<=dc f q/\dc f q<=f+1/\q<10^dc f q/\(dc f q=1∨10^(dc f q-1)<=q):=by
 induction f generalizing q with
 |zero=>simpa [dc] using h
 |succ f z=>
  unfold dc;by_cases w:q<10
  ·rw[if_pos w];exact⟨by omega,by omega,by simpa using w,.inl rfl⟩
  ·rw[if_neg w];obtain⟨a,b,c,d⟩:=z (q/10) (by omega) (by rw[zdS] at h;omega);refine⟨by omega,by omega,?_,.inr ?_⟩
   ·rw[zdS];omega
   ·rw[Nat.add_sub_cancel];rcases d with d|d
    ·rw[d];show (10:Int)^1<=q;rw[show (10:Int)^1=10 from by decide];omega
    ·rw[show dc f (q/10)=(dc f (q/10)-1)+1 from by omega,zdS];omega
def dcn (m:Int):Nat:=dc 19 m
theorem zdw (m:Int) (q:0<=m) (h:m<=18446744073709551615):1<=dcn m/\dcn m<=20/\m<10^dcn m/\(dcn m=1∨10^(dcn m-1)<=m):=
 zmY 19 m q (by rw[show (10:Int)^(19+1)=100000000000000000000 by decide];omega)
theorem zmZ (m:Int) (w:0<=m) (h:m<=18446744073709551615) (k:Nat):10<=m/10^k↔k+1<dcn m:=by
 obtain⟨a,b,c,d⟩:=zdw m w h;rw[Int.le_ediv_iff_mul_le (zfj k),Int.mul_comm,<-zdS];constructor
 ·intro q;rcases Nat.lt_or_ge (k+1) (dcn m) with e|e
  ·exact e
  ·have:=zfk e;omega
 ·intro q;have:=zfk (show k+1<=dcn m-1 by omega);omega
theorem ziU (m:Int) (w:1<=m) (h:m<=18446744073709551615) (k:Nat):m/10^k≠0↔k<dcn m:=by
 obtain⟨a,b,c,d⟩:=zdw m (by omega) h;have z:=ze4 m k (by omega);have:m/10^k≠0↔1<=m/10^k:=by omega
 rw[this,Int.le_ediv_iff_mul_le (zfj k),Int.one_mul];constructor
 ·intro q;rcases Nat.lt_or_ge k (dcn m) with e|e
  ·exact e
  ·have:=zfk e;omega
 ·intro q;have:=zfk (show k<=dcn m-1 by omega);rcases d with d|d
  ·obtain rfl:k=0:=by omega
   simpa using w
  ·omega
def dgk (m:Int):Nat->List Int
 |0=>[]
 |k+1=>(48+m/10^k%10)::dgk m k
theorem zc8 (m:Int) (k:Nat):(dgk m k).length=k:=by
 induction k with
 |zero=>rfl
 |succ k h=>simp[dgk,h]
theorem ziV (m:Int) (c k:Nat) (h:k<c):(dgk m c)[c-1-k]? =some (48+m/10^k%10):=by
 induction c with
 |zero=>omega
 |succ c q=>
  by_cases e:k=c
  ·subst e;rw[show k+1-1-k=0 from by omega];rfl
  ·rw[show c+1-1-k=(c-1-k)+1 from by omega,dgk,List.getElem?_cons_succ];exact q (by omega)
def zfT (n:Int):Int:=if n<0 then-n else n
def zbT (n:Int):List Int:=(if n<0 then [45] else [])++dgk (zfT n) (dcn (zfT n))
theorem zhe {n:Int} (h:n<0):zbT n=45::dgk (-n) (dcn (-n)):=by simp[zbT,h,zfT]
theorem zhf {n:Int} (h:0<=n):zbT n=dgk n (dcn n):=by
 have: ¬n<0:=by omega
 simp[zbT,this,zfT]
theorem zna (L:List Int):zcH L L.length=L:=by simp[zcH]
theorem znb (x:Int) (L:List Int):(zcH (x::L) L.length).set 0 x=x::L:=by
 simp[zcH]
theorem znc (p:List Int) (m:Int) (c k:Nat) (h:k<c):(p++dgk m c)[(p++dgk m c).length-1-k]? =some (48+m/10^k%10):=by
 rw[List.length_append,zc8,List.getElem?_append_right (by omega),show p.length+c-1-k-p.length=c-1-k from by omega];exact ziV m c k h
structure Md where
 rq:List BA
 im:List Im
 ep:List Ep
 st:List Sm
 ex:List Ex
def ze5 (q:PS):Md:=⟨q.rq,q.im,q.ep++q.la,q.st,q.ex⟩
def zP (k:Int):Bool:=k==6||k==7
def zZ (k:Int):Bool:=k==6||k==7||k==8
def zh:Ex:=⟨0,0,sNone,sNone,0,0⟩
abbrev cParens:BA:={data:=#[40,41]}
abbrev tPlus:BA:={data:=#[32,43,32]}
abbrev tMinus:BA:={data:=#[32,45,32]}
abbrev tStar:BA:={data:=#[32,42,32]}
def zH (b:Bool) (t:BA):BA:=if b then zo++t++za6 else t
def prE (ex:List Ex):Nat->Nat->BA
 |0,_=>sNone
 |f+1,i=>
  let x:=ex.getD i zh
  if x.kind==1 then strOfNums (zbT x.num)
  else if x.kind==2 then x.name
  else if x.kind==3 then x.name++cParens
  else if x.kind==4 then x.name++cPoint++x.field
  else if x.kind==5 then x.name++cPoint++x.field++cParens
  else if x.kind==6 then prE ex f x.l.toNat++tPlus++zH (zP (ex.getD x.r.toNat zh).kind) (prE ex f x.r.toNat)
  else if x.kind==7 then prE ex f x.l.toNat++tMinus++zH (zP (ex.getD x.r.toNat zh).kind) (prE ex f x.r.toNat)
  else if x.kind==8 then zH (zP (ex.getD x.l.toNat zh).kind) (prE ex f x.l.toNat)++tStar++zH (zZ (ex.getD x.r.toNat zh).kind) (prE ex f x.r.toNat)
  else sNone
def prX (ex:List Ex) (i:Nat):BA:=prE ex (i+1) i
def zb3 (ex:List Ex):Prop:=∀(i:Nat) (x:Ex),ex[i]? =some x->zZ x.kind=true->0<=x.l/\x.l<(i:Int)/\0<=x.r/\x.r<(i:Int)
theorem zbF {k:Int} (h:(k==6)=true∨(k==7)=true∨(k==8)=true):zZ k=true:=by
 unfold zZ;rcases h with h|h|h<;>simp[h]
theorem zfU {ex:List Ex} (h:zb3 ex) {i:Nat} (q:zZ (ex.getD i zh).kind=true):0<=(ex.getD i zh).l/\(ex.getD i zh).l<(i:Int)/\0<=(ex.getD i zh).r/\(ex.getD i zh).r<(i:Int):=by
 by_cases w:i<ex.length
 ·have e:ex.getD i zh=ex[i]:=by simp[List.getD,List.getElem?_eq_getElem w]
  rw[e] at q ⊢;exact h i _ (List.getElem?_eq_getElem w) q
 ·have e:ex.getD i zh=zh:=by simp[List.getD,List.getElem?_eq_none (by omega:ex.length<=i)]
  rw[e] at q;exact absurd q (by decide)
theorem ziW {ex:List Ex} (h:zb3 ex) (f:Nat): ∀(g i:Nat),i<f->i<g->prE ex f i=prE ex g i:=by
 induction f with
 |zero=>intro g i L;omega
 |succ f E=>
  intro g i K J;obtain⟨g,rfl⟩: ∃I,g=I+1:=⟨g-1,by omega⟩;rw[prE,prE];have H:=fun w=>zfU h (i:=i) w;generalize ex.getD i zh=x at H ⊢;have q: ∀w:zZ x.kind=true,prE ex f x.l.toNat=prE ex g x.l.toNat/\prE ex f x.r.toNat=prE ex g x.r.toNat:=fun w=>by
   have:=H w;exact⟨E g _ (by omega) (by omega),E g _ (by omega) (by omega)⟩
  by_cases z:(x.kind==6)=true
  ·rw[(q (zbF (.inl z))).1,(q (zbF (.inl z))).2]
  ·by_cases D:(x.kind==7)=true
   ·rw[(q (zbF (.inr (.inl D)))).1,(q (zbF (.inr (.inl D)))).2]
   ·by_cases A:(x.kind==8)=true
    ·rw[(q (zbF (.inr (.inr A)))).1,(q (zbF (.inr (.inr A)))).2]
    ·simp only[z,D,A,Bool.false_eq_true,↓reduceIte]
theorem zhg {ex:List Ex} (h:zb3 ex) (i:Nat):prX ex i=
  if (ex.getD i zh).kind==1 then strOfNums (zbT (ex.getD i zh).num)
  else if (ex.getD i zh).kind==2 then (ex.getD i zh).name
  else if (ex.getD i zh).kind==3 then (ex.getD i zh).name++cParens
  else if (ex.getD i zh).kind==4 then (ex.getD i zh).name++cPoint++(ex.getD i zh).field
  else if (ex.getD i zh).kind==5 then (ex.getD i zh).name++cPoint++(ex.getD i zh).field++cParens
  else if (ex.getD i zh).kind==6 then prX ex (ex.getD i zh).l.toNat++tPlus++zH (zP (ex.getD (ex.getD i zh).r.toNat zh).kind) (prX ex (ex.getD i zh).r.toNat)
  else if (ex.getD i zh).kind==7 then prX ex (ex.getD i zh).l.toNat++tMinus++zH (zP (ex.getD (ex.getD i zh).r.toNat zh).kind) (prX ex (ex.getD i zh).r.toNat)
  else if (ex.getD i zh).kind==8 then zH (zP (ex.getD (ex.getD i zh).l.toNat zh).kind) (prX ex (ex.getD i zh).l.toNat)++tStar++zH (zZ (ex.getD (ex.getD i zh).r.toNat zh).kind) (prX ex (ex.getD i zh).r.toNat)
  else sNone:=by
 rw[prX,prE];have E:=fun w=>zfU h (i:=i) w;generalize ex.getD i zh=x at E ⊢;have q: ∀w:zZ x.kind=true,prE ex i x.l.toNat=prX ex x.l.toNat/\prE ex i x.r.toNat=prX ex x.r.toNat:=fun w=>by
  have:=E w;exact⟨ziW h _ _ _ (by omega) (by omega),ziW h _ _ _ (by omega) (by omega)⟩
 by_cases z:(x.kind==6)=true
 ·rw[(q (zbF (.inl z))).1,(q (zbF (.inl z))).2]
 ·by_cases D:(x.kind==7)=true
  ·rw[(q (zbF (.inr (.inl D)))).1,(q (zbF (.inr (.inl D)))).2]
  ·by_cases A:(x.kind==8)=true
   ·rw[(q (zbF (.inr (.inr A)))).1,(q (zbF (.inr (.inr A)))).2]
   ·simp only[z,D,A,Bool.false_eq_true,↓reduceIte]
def zas (ex:List Ex) (k:Int):Nat:=(ex.map fun x=>if zZ x.kind then (if x.l==k then 1 else 0)+(if x.r==k then 1 else 0) else 0).sum
def zaL (st:List Sm) (k:Int):Nat:=(st.map fun s=>if s.expr==k then 1 else 0).sum
structure Tree (m:Md):Prop where
 ahead:zb3 m.ex
 stm: ∀s∈m.st,0<=s.expr/\s.expr<(m.ex.length:Int)
 once: ∀k,k<m.ex.length->zas m.ex (k:Int)+zaL m.st (k:Int)=1
def sm (k:Nat) (f:Nat->Nat):Nat:=((List.range k).map f).sum
theorem znd (f:Nat->Nat):sm 0 f=0:=rfl
theorem zd9 (k:Nat) (f:Nat->Nat):sm (k+1) f=sm k f+f k:=by
 unfold sm;rw[List.range_succ,List.map_append,List.sum_append];simp
theorem zhh (k:Nat) (f g:Nat->Nat):sm k (fun j=>f j+g j)=sm k f+sm k g:=by
 induction k with
 |zero=>rfl
 |succ k h=>rw[zd9,zd9,zd9,h];omega
theorem zdT {k:Nat} {f g:Nat->Nat} (h: ∀j,j<k->f j=g j):sm k f=sm k g:=by
 induction k with
 |zero=>rfl
 |succ k q=>rw[zd9,zd9,q fun j w=>h j (by omega),h k (by omega)]
theorem zhi (k:Nat):sm k (fun _=>0)=0:=by
 induction k with
 |zero=>rfl
 |succ k h=>rw[zd9,h]
theorem zhj (f:Nat->Nat) (k:Nat) (l:Int) (A:0<=l) (h:l<(k:Int)):sm k (fun j=>(if l==(j:Int) then 1 else 0)*f j)=f l.toNat:=by
 induction k with
 |zero=>omega
 |succ k q=>
  rw[zd9];by_cases e:l=(k:Int)
  ·have w:sm k (fun j=>(if l==(j:Int) then 1 else 0)*f j)=0:=(zdT (g:=fun _=>0) fun j z=>by rw[if_neg (by rw[beq_iff_eq];omega)];omega).trans (zhi k);rw[w,if_pos (by rw[beq_iff_eq];exact e),show l.toNat=k from by omega];omega
  ·rw[q (by omega),if_neg (by rw[beq_iff_eq];exact e)];omega
def u1 (x:Ex) (k:Int):Nat:=if zZ x.kind then (if x.l==k then 1 else 0)+(if x.r==k then 1 else 0) else 0
theorem ziX {ex:List Ex} {i:Nat} (h:i<ex.length) (k:Int):zas (ex.drop i) k=u1 ex[i] k+zas (ex.drop (i+1)) k:=by
 rw[List.drop_eq_getElem_cons h,zas,List.map_cons,List.sum_cons];rfl
theorem zne {ex:List Ex} {i:Nat} (h:ex.length<=i) (k:Int):zas (ex.drop i) k=0:=by rw[List.drop_eq_nil_of_le h];rfl
theorem znf {ex:List Ex} (h:zb3 ex) (k:Nat) (A:k<ex.length): ∀d j,j+d=k+1->zas (ex.drop j) (k:Int)=zas (ex.drop (k+1)) (k:Int):=by
 intro d
 induction d with
 |zero=>intro j q;rw[show j=k+1 from by omega]
 |succ d w=>
  intro j q;rw[ziX (by omega),w (j+1) (by omega)];have:u1 ex[j] (k:Int)=0:=by
   unfold u1
   split
   ·next z=>
    have:=h j _ (List.getElem?_eq_getElem (by omega)) z;rw[if_neg (by rw[beq_iff_eq];omega),if_neg (by rw[beq_iff_eq];omega)]
   ·rfl
  omega
def wt (ex:List Ex) (i:Nat):Nat:=(prX ex i).size
def zdU (x:Ex):Nat:=x.name.size+x.field.size+40
theorem zfV (b:Bool) (t:BA):(zH b t).size<=t.size+2:=by
 unfold zH
 split
 ·rw[ByteArray.size_append,ByteArray.size_append];show 1+t.size+1<=t.size+2;omega
 ·omega
theorem zng (n:Int) (w: -9223372036854775808<=n) (q:n<=9223372036854775807):(strOfNums (zbT n)).size<=21:=by
 rw[strOfNums_size];by_cases h:n<0
 ·rw[zhe h,List.length_cons,zc8];have:=(zdw (-n) (by omega) (by omega)).2.1;omega
 ·rw[zhf (by omega),zc8];have:=(zdw n (by omega) (by omega)).2.1;omega
theorem znh {ex:List Ex} (h:zb3 ex) (i:Nat) (A: -9223372036854775808<=(ex.getD i zh).num/\(ex.getD i zh).num<=9223372036854775807):
  wt ex i<=zdU (ex.getD i zh)+if zZ (ex.getD i zh).kind then wt ex (ex.getD i zh).l.toNat+wt ex (ex.getD i zh).r.toNat else 0:=by
 unfold wt;rw[zhg h];generalize ex.getD i zh=x at A ⊢;unfold zdU;by_cases D:(x.kind==1)=true
 ·rw[if_pos D];have:=zng x.num A.1 A.2;omega
 ·rw[if_neg D];by_cases E:(x.kind==2)=true
  ·rw[if_pos E];omega
  ·rw[if_neg E];by_cases H:(x.kind==3)=true
   ·rw[if_pos H,ByteArray.size_append];have:cParens.size=2:=rfl;omega
   ·rw[if_neg H];by_cases J:(x.kind==4)=true
    ·rw[if_pos J,ByteArray.size_append,ByteArray.size_append];have:cPoint.size=1:=rfl;omega
    ·rw[if_neg J];by_cases I:(x.kind==5)=true
     ·rw[if_pos I,ByteArray.size_append,ByteArray.size_append,ByteArray.size_append];have:cPoint.size=1:=rfl;have:cParens.size=2:=rfl;omega
     ·rw[if_neg I];by_cases q:(x.kind==6)=true
      ·rw[if_pos q,if_pos (zbF (.inl q)),ByteArray.size_append,ByteArray.size_append];have:=zfV (zP (ex.getD x.r.toNat zh).kind) (prX ex x.r.toNat);have:tPlus.size=3:=rfl;omega
      ·rw[if_neg q];by_cases z:(x.kind==7)=true
       ·rw[if_pos z,if_pos (zbF (.inr (.inl z))),ByteArray.size_append,ByteArray.size_append];have:=zfV (zP (ex.getD x.r.toNat zh).kind) (prX ex x.r.toNat);have:tMinus.size=3:=rfl;omega
       ·rw[if_neg z];by_cases w:(x.kind==8)=true
        ·rw[if_pos w,if_pos (zbF (.inr (.inr w))),ByteArray.size_append,ByteArray.size_append];have:=zfV (zP (ex.getD x.l.toNat zh).kind) (prX ex x.l.toNat);have:=zfV (zZ (ex.getD x.r.toNat zh).kind) (prX ex x.r.toNat);have:tStar.size=3:=rfl;omega
        ·rw[if_neg w];show 0<=_;omega
def zaU (ex:List Ex):Prop:=∀x∈ex,-9223372036854775808<=x.num/\x.num<=9223372036854775807
theorem zdV {ex:List Ex} {i:Nat} (h:i<ex.length):ex.getD i zh=ex[i]:=by simp[List.getD,List.getElem?_eq_getElem h]
theorem zni (f:Nat->Nat) (n:Nat): ∀q:List Sm,(∀s∈q,0<=s.expr/\s.expr<(n:Int))->(q.map fun s=>f s.expr.toNat).sum=sm n (fun j=>zaL q (j:Int)*f j):=by
 intro q
 induction q with
 |nil=>intro _;show 0=_;rw[<-zhi n];exact zdT fun j _=>by simp[zaL]
 |cons s q z=>
  intro h;rw[List.map_cons,List.sum_cons,z fun x A=>h x (List.mem_cons_of_mem _ A)];have w:=h s List.mem_cons_self;rw[<-zhj f n s.expr w.1 w.2,<-zhh];refine zdT fun j _=>?_;simp only[zaL,List.map_cons,List.sum_cons];rw[Nat.add_mul]
theorem znj {m:Md} (t:Tree m) (J:zaU m.ex): ∀d k,k+d=m.ex.length->
  (m.st.map fun s=>wt m.ex s.expr.toNat).sum<=sm k (fun j=>(zaL m.st (j:Int)+zas (m.ex.drop k) (j:Int))*wt m.ex j)+((m.ex.drop k).map zdU).sum:=by
 intro d
 induction d with
 |zero=>
  intro k z;have:k=m.ex.length:=by omega
  subst this;rw[zni _ _ _ t.stm];refine Nat.le_trans (Nat.le_of_eq ?_) (Nat.le_add_right _ _);refine zdT fun j _=>?_;rw[zne (Nat.le_refl _),Nat.add_zero]
 |succ d A=>
  intro k z;have h:k<m.ex.length:=by omega
  refine Nat.le_trans (A (k+1) (by omega)) ?_;have H:zaL m.st (k:Int)+zas (m.ex.drop (k+1)) (k:Int)=1:=by
   have:=t.once k h;rw[<-znf t.ahead k h (k+1) 0 (by omega),List.drop_zero];omega
  rw[zd9,H,Nat.one_mul,List.drop_eq_getElem_cons h,List.map_cons,List.sum_cons];have D:=znh t.ahead k (by rw[zdV h];exact J _ (List.getElem_mem h));rw[zdV h] at D;have I:sm k (fun j=>(zaL m.st (j:Int)+zas (m.ex.drop k) (j:Int))*wt m.ex j)=sm k (fun j=>(zaL m.st (j:Int)+zas (m.ex.drop (k+1)) (j:Int))*wt m.ex j)+if zZ m.ex[k].kind then wt m.ex m.ex[k].l.toNat+wt m.ex m.ex[k].r.toNat else 0:=by
   have e: ∀j:Nat,(zaL m.st (j:Int)+zas (m.ex.drop k) (j:Int))*wt m.ex j=(zaL m.st (j:Int)+zas (m.ex.drop (k+1)) (j:Int))*wt m.ex j+u1 m.ex[k] (j:Int)*wt m.ex j:=fun j=>by
    rw[ziX h,<-Nat.add_mul];congr 1;omega
   rw[zdT fun j _=>e j,zhh];congr 1
   split
   ·next w=>
    have q:=t.ahead k _ (List.getElem?_eq_getElem h) w;rw[<-zhj (wt m.ex) k _ q.1 q.2.1,<-zhj (wt m.ex) k _ q.2.2.1 q.2.2.2,<-zhh];refine zdT fun j _=>?_;rw[u1,if_pos w,Nat.add_mul]
   ·next w=>
    rw[<-zhi k];refine zdT fun j _=>?_;rw[u1,if_neg w,Nat.zero_mul]
  have E:zas (m.ex[k]::m.ex.drop (k+1))=zas (m.ex.drop k):=by rw[<-List.drop_eq_getElem_cons h]
  rw[E,I];omega
theorem znk {m:Md} (t:Tree m) (h:zaU m.ex):(m.st.map fun s=>wt m.ex s.expr.toNat).sum<=(m.ex.map zdU).sum:=by
 have:=znj t h m.ex.length 0 (by omega);rw[znd,Nat.zero_add,List.drop_zero] at this;exact this
end Go.Proofs.YtgcbmogmniahjaaGreat
namespace Go.Proofs.YtgcbmogmniahjaaGreat
open Go.RowKit Go.PlainAid
theorem zhk {w:World} {base n:Nat} {e:TypeId} {size:Nat} {v:Value} {xs:List Value} (h:w.ownsRow base e size v n xs): ∀k,v.ownBlock=some k->base<=k:=by
 intro k q;rcases h.2 with ⟨rfl,_⟩|⟨g,A,z,rfl,D,_⟩
 ·simp[Value.ownBlock] at q
 ·simp only[Value.ownBlock,Option.some.injEq] at q;omega
end Go.Proofs.YtgcbmogmniahjaaGreat
namespace Go.Proofs.YtgcbmogmniahjaaGreat
open Go.RowKit Go.PlainAid
def tkL (t:Tk):List Value:=[.int .i64 t.kind,.string t.text,.int .i64 t.num,.int .i64 t.pos]
def OwnT (w:World) (base:Nat) (e:TypeId) (g n cap:Nat) (ts:List Tk):Prop:=w.ownsRow base e 4 (.slice (some ⟨g,0,none⟩) n cap) n (ts.flatMap tkL)/\n=ts.length
theorem zat {w:World} {base g n q:Nat} {e:TypeId} {E:List Tk} (h:OwnT w base e g n q E):g<w.heap.size/\base<=g/\n<=q:=by
 rcases h.1.2 with ⟨z,_⟩|⟨K,A,D,z,H,I,J,_⟩
 ·simp at z
 ·simp only[Value.slice.injEq,Option.some.injEq,Addr.mk.injEq,and_true,true_and] at z;obtain⟨rfl,rfl⟩:=z;exact⟨(aLt I),H,J⟩
theorem zcw {w W:World} {base g n z:Nat} {e:TypeId} {E:List Tk} (h:OwnT w base e g n z E) (K:Below w.heap.size w W):OwnT W base e g n z E:=by
 have D:=(zat h).1;refine⟨⟨h.1.1,?_⟩,h.2⟩;rcases h.1.2 with k|⟨M,I,A,H,q,L,J⟩
 ·exact .inl k
 ·simp only[Value.slice.injEq,Option.some.injEq,Addr.mk.injEq,and_true,true_and] at H;obtain⟨rfl,rfl⟩:=H;exact .inr ⟨g,z,A,rfl,q,(K.block g D).trans L,J⟩
theorem zhl (w:World) (e:TypeId) (base:Nat) (h:base<=w.heap.size):OwnT (w.alloc (.cells #[] e)) base e w.heap.size 0 0 []:=
 ⟨World.ownsRow_lit w #[] 0 h (by unfold maxLen;omega) rfl,rfl⟩
theorem znl {P:Program} (w:World) {K:Array Oper} {rest:List Oper} {o:Oper} {a:Act} {Q:Exit->Act->World->Prop} (M:o.guard=none) (s x:Operand) (t:TypeId)
  (ho:o.op= .call {callee:=.builtin .append,args:=#[s,x],argTypes:=#[t,t]})
  (base:Nat) (e:TypeId) (i:TypeInfo) (z:Value) (ht:P.underlying t=some (.slice e)) (hi:P.info? e=some i) (hz:i.zero=some z) (E:i.size=4) (N:i.bytes=40) (O:z.cells.size=4)
  (g n J:Nat) (ts:List Tk) (hs:a.eval s= .slice (some ⟨g,0,none⟩) n J) (D:OwnT w base e g n J ts)
  (b:Tk) (Z:Nat) (V:Z=w.heap.size) (hx:a.eval x= .slice (some ⟨Z,0,none⟩) 1 1) (hn:n+1<=1000000) (H:base<=w.heap.size)
  (h: ∀L A I,OwnT I base e L (n+1) A (ts++[b])->Below base w I->wpList P K Q rest (a.put o.dst (.slice (some ⟨L,0,none⟩) (n+1) A)) I):
  wpList P K Q (o::rest) a (w.alloc (.cells #[.int .i64 b.kind,.string b.text,.int .i64 b.num,.int .i64 b.pos] e)):=by
 subst V;refine wpList_append_own _ M s x t ho base e i z 4 40 ht hi hz E N O (by decide) _ n _ hs (D.1.alloc _) ⟨w.heap.size,0,none⟩ 1 1 (tkL b) hx rfl ?_ ?_ ?_ ?_ ?_ ?_
 ·intro j u q
  match j,q with
  |0,q=>simp[tkL] at q;subst q;simp[Addr.add]
  |1,q=>simp[tkL] at q;subst q;simp[Addr.add]
  |2,q=>simp[tkL] at q;subst q;simp[Addr.add]
  |3,q=>simp[tkL] at q;subst q;simp[Addr.add]
  |j+4,q=>simp[tkL] at q
 ·intro u Y;simp[tkL] at Y;rcases Y with rfl|rfl|rfl|rfl<;>rfl
 ·unfold maxLen;omega
 ·omega
 ·simp;omega
 ·intro v' I X h2 h3;have hb:Below base w I:=((Below.refl base w).alloc H _).grown h2 (by simp;omega) (zhk D.1);rcases X.2 with ⟨hv,_⟩|⟨L,A,aa,rfl,U⟩
  ·have:=(h3.1 hv).1;simp at this
  ·refine h L A I ⟨?_,by rw[List.length_append];have:=D.2;simp;omega⟩ hb;rw[List.flatMap_append]
   simpa using X
end Go.Proofs.YtgcbmogmniahjaaGreat
namespace Go.Proofs.YtgcbmogmniahjaaGreat
open Go.RowKit Go.PlainAid Go.Deep
def RowAt {α:Type} (w:World) (a:Option Addr) (f:α->List Value) (m:Nat) (l:List α):Prop:=
 l=[]∨∃b off,a=some ⟨b,off,none⟩/\b<w.heap.size/\∀j x,l[j]? =some x->∀i v,(f x)[i]? =some v->w.cell? ⟨b,off+j*m+i,none⟩=some v
theorem RowAt.later {α:Type} {w A:World} {a:Option Addr} {f:α->List Value} {m:Nat} {l:List α} (h:RowAt w a f m l) (D:Below w.heap.size w A):RowAt A a f m l:=by
 rcases h with h|⟨b,z,E,q,I⟩
 ·exact .inl h
 ·exact .inr ⟨b,z,E,Nat.lt_of_lt_of_le q D.size,fun j x J i v H=>by rw[D.cell q];exact I j x J i v H⟩
theorem RowAt.get {α:Type} {w:World} {a:Option Addr} {f:α->List Value} {m:Nat} {l:List α} (h:RowAt w a f m l) {j:Nat} {x:α} (z:l[j]? =some x): ∃b q,a=some ⟨b,q,none⟩/\∀i v,(f x)[i]? =some v->w.cell? ⟨b,q+j*m+i,none⟩=some v:=by
 rcases h with h|⟨b,q,D,A,E⟩
 ·rw[h] at z;cases z
 ·exact⟨b,q,D,E j x z⟩
theorem zbt {α:Type} {f:α->List Value} {m:Nat} (w: ∀x,(f x).length=m) (l:List α): ∀(k:Nat) (x:α) (i:Nat) (v:Value),l[k]? =some x->(f x)[i]? =some v->(l.flatMap f)[k*m+i]? =some v:=by
 induction l with
 |nil=>intro k x i v h;cases h
 |cons y l z=>
  intro k x i v h q;rw[List.flatMap_cons];cases k with
  |zero=>
   cases h;rw[Nat.zero_mul,Nat.zero_add,List.getElem?_append_left (by rw[List.getElem?_eq_some_iff] at q;exact q.1)];exact q
  |succ k=>
   rw[List.getElem?_append_right (by rw[w,Nat.succ_mul];omega),w,show (k+1)*m+i-m=k*m+i by rw[Nat.succ_mul];omega];exact z k x i v h q
def zco (left:Int) (c:Nat) (e:Ending):Prop:=∃z:Int,e= .returned (.int .i64 z)/\ -1<=z/\z<=left/\(0<=z->z+(c:Int)=left)
theorem zpu {w:World} {y:Addr} {v:Value} (h:w.cell? (y.add 0)=some v):y=⟨y.block,y.off,none⟩/\y.block<w.heap.size:=by
 have A:y.add 0=y:=by unfold Addr.add;simp
 rw[A] at h;obtain⟨b,D,q⟩:=y;have E:q=none:=by simpa using World.cell?_spot h
 subst E;refine⟨rfl,?_⟩;show b<_;rcases Nat.lt_or_ge b w.heap.size with z|z
 ·exact z
 ·have H:w.heap[b]? =none:=Array.getElem?_eq_none z;simp[World.cell?,H] at h
theorem zpv {y:Addr} (h:y=⟨y.block,y.off,none⟩) (k:Nat):y.add k=⟨y.block,y.off+k,none⟩:=by
 obtain⟨b,w,q⟩:=y;simp only[Addr.mk.injEq,true_and] at h;subst h;unfold Addr.add
 split
 ·rename_i z
  rw[z,Nat.add_zero]
 ·rfl
theorem zdG {H:Type} {enc:TypeId×Value->H} {P:Program} {w:World} {base U:Nat} {E:Nat->Bool} {I:Bool} {α:Type} (x0:α) {f:α->List Value} {m:Nat} (aa:0<m) (hf: ∀x,(f x).length=m) {Q:α->Prop} {t e:TypeId} {v:Value} {z:DataW H×List MemPlace}
  (ht:P.underlying t=some (.slice e)) (ce:P.cellsOf e=m) (hd: ∀n cs y,DataW.trod enc P w base E I n e cs=some y->cs.length=m->∃x,cs=f x/\Q x)
  (h:DataW.trod enc P w base E I U t [v]=some z): ∃(a:Option Addr) (K:Nat) (l:List α),v= .slice a l.length K/\l.length<=maxLen/\RowAt w a f m l/\∀x∈l,Q x:=by
 haveI:Inhabited α:=⟨x0⟩
 rcases open_slice ht h with ⟨M,_⟩|⟨a,A,K,mm,n,D,Pl,M,hb,hl,hm,Z,_,O⟩
 ·simp only[List.cons.injEq,and_true] at M;exact⟨none,0,[],M,Nat.zero_le _,.inl rfl,fun x O=>by cases O⟩
 ·simp only[List.cons.injEq,and_true] at M;have ac:A<=mm:=by rw[Z];split<;>omega
  have N: ∀i,i<A->∃x:α,Q x/\∀j v,(f x)[j]? =some v->w.cell? (a.add (i*m+j))=some v:=by
   intro i hi;obtain⟨ab,h1,h2⟩:=O i (by omega);rw[ce] at h1;obtain⟨_,q,L⟩:=World.cells?_some h1;obtain⟨x,rfl,hq⟩:=hd _ _ _ h2 q;refine⟨x,hq,fun j v Y=>?_⟩;have X:j<m:=by have:=(List.getElem?_eq_some_iff.1 Y).1;rw[hf] at this;exact this
   have:=L j (by omega);rw[add_add] at this;rw[this];exact Y
  obtain⟨g,hg⟩:=choose_lt N;have q:((List.range A).map g).length=A:=by simp
  refine⟨some a,K,(List.range A).map g,by rw[q];exact M,by rw[q];omega,?_,?_⟩
  ·by_cases hz:A=0
   ·exact .inl (by rw[hz];rfl)
   ·have J: ∃v0,w.cell? (a.add 0)=some v0:=by
     have:=(hg 0 (by omega)).2 0 ((f (g 0))[0]'(by rw[hf];exact aa)) (List.getElem?_eq_getElem _);rw[Nat.zero_mul] at this;exact⟨_,this⟩
    obtain⟨v0,J⟩:=J;have ha:=zpu J;refine .inr ⟨a.block,a.off,by rw[<-ha.1],ha.2,fun j x X i v Y=>?_⟩;have V:j<A:=by have:=(List.getElem?_eq_some_iff.1 X).1;rw[q] at this;exact this
    rw[List.getElem?_map,List.getElem?_range V] at X;cases X;have hc:=(hg j V).2 i v Y;rw[zpv ha.1] at hc;rw[Nat.add_assoc];exact hc
  ·intro x O;obtain⟨i,hi,rfl⟩:=List.mem_map.1 O;exact (hg i (List.mem_range.1 hi)).1
end Go.Proofs.YtgcbmogmniahjaaGreat
