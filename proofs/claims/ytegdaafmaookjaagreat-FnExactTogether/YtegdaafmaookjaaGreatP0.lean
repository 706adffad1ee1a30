/- Facts. -/
import Derived.WalkKit
import Derived.PlainAid
import Derived.Laws.BytesArg
import Derived.Lib.Strings
import Derived.Deep.RegionLaw
import Derived.Maps.AppendAt
import Derived.Deep.Slices
import Derived.OpenShut
import Derived.Below
namespace Go.Proofs.YtegdaafmaookjaaGreat
open Nat (le_refl lt_or_ge lt_irrefl le_trans add_mul)
open List (replicate drop_eq_getElem_cons map_cons drop_zero sum_cons)
abbrev Bw (w:Go.World):=Go.RowKit.Below w.heap.size w
theorem bA0 {w:Go.World} {o:Go.Obj}:Go.RowKit.Below w.heap.size w (w.alloc o):=(Go.RowKit.Below.refl _ _).alloc (Nat.le_refl _) _
open Go.RowKit Go.PlainAid
abbrev bxN:Array Value:=#[.slice none 0 0,.slice none 0 0,.slice none 0 0,.slice none 0 0,.slice none 0 0]
abbrev BA0:=ByteArray
theorem aLt {α : Type _} {a : Array α} {i : Nat} {b : α} (h : a[i]? =some b) : i<a.size:=(Array.getElem?_eq_some_iff.1 h).1
theorem fE : (false = true) = False:=Bool.false_eq_true
theorem sI0 {α:Type _} (a b:α):(some a = some b) = (a = b):=Option.some.injEq a b
theorem sA {a b:ByteArray}:(a ++ b).size = a.size + b.size:=ByteArray.size_append
theorem dF {p:Prop} [Decidable p] (h:¬p):decide p = false:=decide_eq_false h
theorem gE {α:Type _} {l:List α} {i:Nat} (h:i < l.length):l[i]? = some l[i]:=List.getElem?_eq_getElem h
def inB (a b c:Int):Bool:=decide (b<=a)&&decide (a<=c)
theorem zkm {a b c:Int} (h:b<=a) (k:a<=c):inB a b c=true:=by simp[inB,h,k]
theorem zim {a b c:Int} (h: ¬(b<=a/\a<=c)):inB a b c=false:=by
 simp only[inB,Bool.and_eq_false_iff,decide_eq_false_iff_not];omega
theorem zk {a b:Bool} (h:a=b):Ending.returned (.bool a)= .returned (.bool b):=by rw[h]
theorem zbP {k:IntKind} {a b:Int} (h:a=b):Ending.returned (.int k a)= .returned (.int k b):=by rw[h]
theorem za9 {a b:BA0} (h:a=b):Ending.returned (.string a)= .returned (.string b):=by rw[h]
theorem zel {a b:Int} {c d:Bool} (h:a=b) (k:c=d):Ending.returned (.tuple #[.int .i64 a,.bool c])= .returned (.tuple #[.int .i64 b,.bool d]):=by rw[h,k]
def zkn (s:BA0):Nat->Int
 |0=>0
 |k+1=>zkn s k*256+bt s k
def zps (s:BA0) (n:Int):Bool:=inB n 1 7&&decide (n<=s.size)
def rfV (s:BA0) (n:Int):Int:=if zps s n then zkn s n.toNat else 0
abbrev sNone:BA0:={data:=#[]}
theorem zh (w:World) (o:Obj):(w.alloc o).heap.size=w.heap.size+1:=by show (w.heap.push _).size=_;simp
theorem _root_.Go.RowKit.Hid.o {p:Prop} (h:Go.RowKit.Hid p):p:=h
theorem zc {p:Prop} (h:p):Hid p:=h
theorem zd0 {α:Type} {l:List α} {j:Nat} {x:α} (h:l[j]? =some x):l.take (j+1)=l.take j++[x]:=by
 rw[List.take_add_one,h];rfl
def zde (w:World) (base:Nat) (e:TypeId) (v:Value) (n:Nat) (xs:List Int):Prop:=w.ownsRow base e 1 v n (xs.map (Value.int .u8))
theorem zko {P:Program} {w:World} {src dst e:TypeId} (M:P.underlying src=some (.slice e)) (L:P.underlying e=some (.int .u8)) (K:P.underlying dst=some .string)
  {base n:Nat} {v:Value} {xs:List Int} (h:zde w base e v n xs):(convert src dst v).run P w= .ok (.string (strOfNums xs)) w:=by
 obtain⟨H,X⟩:=h;rw[List.length_map,Nat.mul_one] at H;rcases X with ⟨rfl,rfl⟩|⟨g,q,I,rfl,U,V,Y,N,J,O⟩
 ·obtain rfl:=List.length_eq_zero_iff.1 H;exact run_convert_bytes_nil w src e M L 0 0 dst K
 ·refine run_convert_bytes_arg w src e M L g 0 n q xs H (fun i Z=>?_) dst K;have A:w.ownsRow base e 1 (.slice (some ⟨g,0,none⟩) n q) n (xs.map (Value.int .u8)):=⟨by simpa using H,.inr ⟨g,q,I,rfl,U,V,Y,N,J,O⟩⟩;have:=A.cellAt i (by omega);rw[Nat.zero_add,this];simp[List.getD,gE (show i<xs.length by omega)]
theorem zin {P:Program} {src dst e:TypeId} (A:P.underlying src=some (.slice e)) (q:P.underlying e=some (.int .u8)) (h:P.underlying dst=some .string)
  (w:World) (x:Int):(convert src dst (.slice (some ⟨w.heap.size,0,none⟩) 1 1)).run P (w.alloc (.cells #[.int .u8 x] e))= .ok (.string (strOfNums [x])) (w.alloc (.cells #[.int .u8 x] e)):=by
 refine run_convert_bytes_arg _ src e A q w.heap.size 0 1 1 [x] rfl (fun i H=>?_) dst h;obtain rfl:i=0:=by omega
 rw[World.cell?_alloc_new];rfl
theorem zpt (xs h:List Int):strOfNums xs++strOfNums h=strOfNums (xs++h):=by
 unfold strOfNums;rw[ByteArray.mk_append_mk,List.map_append]
theorem zgL (x:Int) (h:List Int):strOfNums [x]++strOfNums h=strOfNums (x::h):=zpt [x] h
def zzW (L:List Int) (k:Nat):List Int:=L.take k++replicate (L.length-k) 0
def zdf (L:List Int) (k:Nat):List Int:=replicate (L.length-k) 0++L.drop (L.length-k)
theorem zkp (L:List Int):zdf L 0=replicate L.length 0:=by simp[zdf]
theorem zkq (L:List Int) (k:Nat) (x:Int) (h:k<L.length) (w:L[L.length-1-k]? =some x):(zdf L k).set (L.length-1-k) x=zdf L (k+1):=by
 have H:replicate (L.length-k) (0:Int)=replicate (L.length-(k+1)) 0++[0]:=by
  rw[show L.length-k=(L.length-(k+1))+1 from by omega,List.replicate_succ']
 have A:L.drop (L.length-(k+1))=x::L.drop (L.length-k):=by
  have e:L.length-(k+1)=L.length-1-k:=by omega
  rw[e];have q:L.length-1-k<L.length:=by omega
  rw[drop_eq_getElem_cons q];rw[gE q] at w;simp only[sI0] at w;rw[w,show L.length-1-k+1=L.length-k from by omega]
 unfold zdf;rw[H,A,List.append_assoc,List.set_append_right _ _ (by simp;omega),List.length_replicate,show L.length-1-k-(L.length-(k+1))=0 from by omega];rfl
theorem zio {w:World} {B g n q:Nat} {e:TypeId} {L:List Int} (h:zde w B e (.slice (some ⟨g,0,none⟩) n q) n L) (j:Nat) (x:Int):
  zde (w.setCell ⟨g,j,none⟩ (.int .u8 x)) B e (.slice (some ⟨g,0,none⟩) n q) n (L.set j x):=by
 unfold zde at h ⊢;rw[List.map_set];exact (h.stored j (.int .u8 x)).1
theorem ziq {w:World} {B g n q:Nat} {e:TypeId} {L:List Int} (h:zde w B e (.slice (some ⟨g,0,none⟩) n q) n L) (j:Nat) (H:j<n): ∃v,w.cell? ⟨g,j,none⟩=some v:=by
 unfold zde at h;have A:=h.1;rw[List.length_map,Nat.mul_one] at A;rw[h.cellAt j (by omega)];simp[gE (show j<L.length by omega)]
theorem zir {w:World} {B g n q:Nat} {e:TypeId} {L:List Int} (h:zde w B e (.slice (some ⟨g,0,none⟩) n q) n L) (j:Nat):w.frozen? ⟨g,j,none⟩=false:=World.ownsRow.frozenAt h j
def dl (n:Int):Nat->List Int
 |0=>[]
 |k+1=>(n/2^(8*k)%256)::dl n k
def zpu (n m:Int):Bool:=inB m 1 7&&decide (0<=n)&&decide (n/2^(8*m.toNat)=0)
def fxL (n m:Int):List Int:=if zpu n m then dl n m.toNat else []
def bsl (s:BA0):Nat->Nat->List Int
 |_,0=>[]
 |i,m+1=>bt s i::bsl s (i+1) m
theorem zpv (s:BA0) (i m:Nat):(bsl s i m).length=m:=by
 induction m generalizing i with
 |zero=>rfl
 |succ m h=>simp[bsl,h]
theorem zpw (s:BA0) (i:Nat) (h:i<s.data.toList.length):UInt8.ofNat (bt s i).toNat=s.data.toList[i]:=by
 have q:i<s.size:=by simpa using h
 rw[<-get_bt s i q,Int.toNat_natCast,UInt8.ofNat_toNat];rfl
theorem zpx (s:BA0) (i m:Nat) (h:i+m<=s.size):(bsl s i m).map (fun n=>UInt8.ofNat n.toNat)=(s.data.toList.drop i).take m:=by
 induction m generalizing i with
 |zero=>simp[bsl]
 |succ m w=>
  have q:i<s.data.toList.length:=by rw[Array.length_toList];exact Nat.lt_of_lt_of_le (show i<i+(m+1) by omega) h
  rw[bsl,map_cons,w (i+1) (by omega),drop_eq_getElem_cons q,List.take_succ_cons,zpw s i q]
theorem zkr (s:BA0) (k:Nat) (h:k<=s.size):s.extract 0 k=strOfNums (bsl s 0 k):=by
 have e:(s.extract 0 k).data.toList=(strOfNums (bsl s 0 k)).data.toList:=by
  rw[Lib.extract_data,strOfNums_data,zpx s 0 k (by omega),Nat.sub_zero]
 have q:(s.extract 0 k).data=(strOfNums (bsl s 0 k)).data:=by
  rw[<-Array.toArray_toList (xs:=(s.extract 0 k).data),e,Array.toArray_toList]
 have w: ∀a b:BA0,a.data=b.data->a=b:=by rintro⟨a⟩ ⟨b⟩ h;cases h;rfl
 exact w _ _ q
theorem zgM {a b:BA0} (h:a.data.toList=b.data.toList):a=b:=by
 obtain⟨⟨a⟩⟩:=a;obtain⟨⟨b⟩⟩:=b;simp only at h;rw[h]
theorem ze6 (a b:BA0):(a.toList==b.toList)=true↔a=b:=by
 rw[beq_iff_eq,Lib.toList_data,Lib.toList_data];exact⟨zgM,fun h=>by rw[h]⟩
theorem zpy (s:BA0):s=strOfNums (bsl s 0 s.size):=by
 rw[<-zkr s s.size (le_refl _)];refine zgM ?_;rw[Lib.extract_data,drop_zero,Nat.sub_zero,List.take_of_length_le];rw[Array.length_toList];exact le_refl _
theorem zdQ (s:BA0) (k:Nat):bt s k=(s.data.toList.map (fun b=>(b.toNat:Int))).getD k 0:=by
 unfold bt;by_cases h:k<s.size
 ·rw[dif_pos h];have q:k<s.data.toList.length:=by rw[Array.length_toList];exact h
  simp only[List.getD,List.getElem?_map,gE q,Option.map_some,Option.getD_some];rfl
 ·rw[dif_neg h];have q:s.data.toList.length<=k:=by rw[Array.length_toList];exact Nat.le_of_not_lt h
  simp[List.getD,List.getElem?_eq_none q]
theorem zgN (a b:BA0):(a++b).data.toList=a.data.toList++b.data.toList:=by
 obtain⟨⟨a⟩⟩:=a;obtain⟨⟨b⟩⟩:=b;rw[ByteArray.mk_append_mk]
def zaA (c:Int) (scr:Bool):Bool:=decide (97<=c/\c<=122)||decide (65<=c/\c<=90)||decide (c=95)||(scr&&decide (c=36))
def zQ (c:Int):Bool:=decide (48<=c/\c<=57)
def zT (scr:Bool) (c:Int):Bool:=zaA c scr||zQ c
def zbC (c:Int):Bool:=decide (c≠10)
abbrev zcT (c:Int):Prop:=c=9∨c=10∨c=13∨c=32
abbrev zbz (c:Int):Prop:=c=123∨c=125∨c=40∨c=41∨c=44∨c=59∨c=61∨c=46∨c=42∨c=43∨c=45
abbrev zbQ (c:Int):Prop:=32<=c/\c<=126/\c≠34/\c≠92
theorem ze7 {c:Int} {h:Bool}:zaA c h=true↔(97<=c/\c<=122)∨(65<=c/\c<=90)∨c=95∨(h=true/\c=36):=by simp[zaA,or_assoc]
theorem zdg {c:Int}:zQ c=true↔48<=c/\c<=57:=by simp[zQ]
def zaB (p:Int->Bool) (s:BA0) (a e:Nat):Prop:=a<=e/\e<=s.size/\(∀j,a<=j->j<e->p (bt s j)=true)/\(e<s.size->p (bt s e)=false)
theorem zfS {p:Int->Bool} {s:BA0} {a q w:Nat} (L:zaB p s a q) (J:zaB p s a w):q=w:=by
 obtain⟨I,O,N,M⟩:=L;obtain⟨K,U,A,H⟩:=J;rcases Nat.lt_trichotomy q w with h|h|h
 ·have:=A q I h;rw[M (by omega)] at this;cases this
 ·exact h
 ·have:=N w K h;rw[H (by omega)] at this;cases this
def zbR (s:BA0) (a:Nat):Nat->Int
 |0=>0
 |k+1=>zbR s a k*10+(bt s (a+k)-48)
def zbl (s:BA0) (a:Nat) (scr:Bool) (n:Int) (e:Nat):Prop:=
 zaB zQ s a e/\a<e/\(e=a+1∨bt s a≠48)/\n=zbR s a (e-a)/\n<=1000000/\(e<s.size->zaA (bt s e) scr=false)
theorem zpz {s:BA0} {a:Nat} {h:Bool} {A I:Int} {q J:Nat} (H:zbl s a h A q) (w:zbl s a h I J):A=I/\q=J:=by
 have K:=zfS H.1 w.1;subst K;exact⟨H.2.2.2.1.trans w.2.2.2.1.symm,rfl⟩
theorem zks {s:BA0} {a:Nat} (k m:Nat) (q: ∀j,j<m->48<=bt s (a+j)) (K:k<=m):0<=zbR s a k/\zbR s a k<=zbR s a m:=by
 have J: ∀m,(∀j,j<m->48<=bt s (a+j))->0<=zbR s a m:=by
  intro m
  induction m with
  |zero=>intro _;exact Int.le_refl _
  |succ m w=>
   intro h;have A:=w (fun j H=>h j (by omega));have I:=h m (by omega);show 0<=zbR s a m*10+(bt s (a+m)-48);omega
 induction m with
 |zero=>
  obtain rfl:k=0:=by omega
  exact⟨Int.le_refl _,Int.le_refl _⟩
 |succ m w=>
  by_cases e:k=m+1
  ·subst e;exact⟨J _ q,Int.le_refl _⟩
  ·obtain⟨A,I⟩:=w (fun j H=>q j (by omega)) (by omega);have L:=q m (by omega);refine⟨A,?_⟩;show _<=zbR s a m*10+(bt s (a+m)-48);omega
def zbD (s:BA0) (a e:Nat):Prop:=a+2<=e/\e<=s.size/\e<=a+42/\bt s (e-1)=34/\∀j,a<j->j+1<e->zbQ (bt s j)
theorem zp0 {s:BA0} {a q w:Nat} (K:zbD s a q) (J:zbD s a w):q=w:=by
 obtain⟨O,N,X,L,I⟩:=K;obtain⟨U,V,M,H,A⟩:=J;rcases Nat.lt_trichotomy q w with h|h|h
 ·exact absurd L (A (q-1) (by omega) (by omega)).2.2.1
 ·exact h
 ·exact absurd H (I (w-1) (by omega) (by omega)).2.2.1
structure Tk where
 kind:Int
 text:BA0
 num:Int
 pos:Nat
def Tok (s:BA0) (scr:Bool) (a:Nat) (t:Tk) (e:Nat):Prop:=
 (zaA (bt s a) scr=true/\zaB (zT scr) s a e/\t=⟨1,s.extract a e,0,a⟩)∨(∃n,zQ (bt s a)=true/\zbl s a scr n e/\t=⟨2,{data:=#[]},n,a⟩)∨(bt s a=34/\zbD s a e/\t=⟨3,s.extract (a+1) (e-1),0,a⟩)∨(zbz (bt s a)/\t=⟨4,s.extract a (a+1),0,a⟩/\e=a+1)
theorem Tok.name {s:BA0} {q:Bool} {a e:Nat} (h:zaA (bt s a) q=true) (w:zaB (zT q) s a e):Tok s q a ⟨1,s.extract a e,0,a⟩ e:=.inl ⟨h,w,rfl⟩
theorem Tok.num {s:BA0} {q:Bool} {a e:Nat} {n:Int} (h:zQ (bt s a)=true) (w:zbl s a q n e):Tok s q a ⟨2,{data:=#[]},n,a⟩ e:=.inr (.inl ⟨n,h,w,rfl⟩)
theorem Tok.str {s:BA0} {q:Bool} {a e:Nat} (h:bt s a=34) (w:zbD s a e):Tok s q a ⟨3,s.extract (a+1) (e-1),0,a⟩ e:=.inr (.inr (.inl ⟨h,w,rfl⟩))
theorem Tok.sign {s:BA0} {q:Bool} {a:Nat} (h:zbz (bt s a)):Tok s q a ⟨4,s.extract a (a+1),0,a⟩ (a+1):=.inr (.inr (.inr ⟨h,rfl,rfl⟩))
theorem Tok.elim {s:BA0} {scr:Bool} {a:Nat} {motive:(t:Tk)->(e:Nat)->Tok s scr a t e->Prop} {t:Tk} {e:Nat} (h:Tok s scr a t e) (name: ∀{e:Nat} (h:zaA (bt s a) scr=true) (he:zaB (zT scr) s a e),motive _ e (.name h he)) (num: ∀{n:Int} {e:Nat} (h:zQ (bt s a)=true) (he:zbl s a scr n e),motive _ e (.num h he)) (str: ∀{e:Nat} (h:bt s a=34) (he:zbD s a e),motive _ e (.str h he)) (sign: ∀(h:zbz (bt s a)),motive _ _ (.sign h)):motive t e h:=by
 rcases h with ⟨h1,h2,rfl⟩|⟨n,h1,h2,rfl⟩|⟨h1,h2,rfl⟩|⟨h1,rfl,rfl⟩
 ·exact name h1 h2
 ·exact num h1 h2
 ·exact str h1 h2
 ·exact sign h1
theorem zfh {c:Int} {q:Bool} (h:zaA c q=true):zQ c=false/\c≠34/\¬zbz c:=by
 rw[ze7] at h;refine⟨dF (by omega),by omega,by unfold zbz;omega⟩
theorem zfi {c:Int} (h:zQ c=true):c≠34/\¬zbz c:=by
 rw[zdg] at h;exact⟨by omega,by unfold zbz;omega⟩
theorem zp1 {s:BA0} {I:Bool} {a:Nat} {L K:Tk} {M N:Nat} (O:Tok s I a L M) (J:Tok s I a K N):L=K/\M=N:=by
 cases O using Tok.elim with
 |name h H=>
  have A:=zfh h;cases J using Tok.elim with
  |name q w=>have:=zfS H w;subst this;exact⟨rfl,rfl⟩
  |num q w=>rw[A.1] at q;cases q
  |str q w=>exact absurd q A.2.1
  |sign q=>exact absurd q A.2.2
 |num h H=>
  have A:=zfi h;cases J using Tok.elim with
  |name q w=>rw[(zfh q).1] at h;cases h
  |num q w=>obtain⟨rfl,rfl⟩:=zpz H w;exact⟨rfl,rfl⟩
  |str q w=>exact absurd q A.1
  |sign q=>exact absurd q A.2
 |str h H=>
  cases J using Tok.elim with
  |name q w=>exact absurd h (zfh q).2.1
  |num q w=>exact absurd h (zfi q).1
  |str q w=>have:=zp0 H w;subst this;exact⟨rfl,rfl⟩
  |sign q=>rw[h] at q;unfold zbz at q;omega
 |sign h=>
  cases J using Tok.elim with
  |name q w=>exact absurd h (zfh q).2.2
  |num q w=>exact absurd h (zfi q).2
  |str q w=>rw[q] at h;unfold zbz at h;omega
  |sign q=>exact⟨rfl,rfl⟩
theorem zfj {s:BA0} {w:Bool} {a:Nat} {t:Tk} {e:Nat} (A:a<s.size) (h:Tok s w a t e):a<e/\e<=s.size/\t.pos=a:=by
 cases h using Tok.elim with
 |name h q=>
  refine⟨?_,q.2.1,rfl⟩;rcases lt_or_ge a e with k|k
  ·exact k
  ·have H:e=a:=by have:=q.1;omega
   subst H;have:=q.2.2.2 A;simp[zT,h] at this
 |num h q=>exact⟨q.2.1,q.1.2.1,rfl⟩
 |str h q=>exact⟨by have:=q.1;omega,q.2.1,rfl⟩
 |sign h=>exact⟨by omega,by omega,rfl⟩
abbrev zcE (s:BA0) (a:Nat):Prop:=bt s a=47/\a+1<s.size/\bt s (a+1)=47
def zp2 (s:BA0) (P:Nat->Nat->Prop):Prop:=P s.size s.size/\(∀a,a<s.size->¬zcT (bt s a)->¬zcE s a->P a a)/\(∀a b,a<s.size->zcT (bt s a)->P (a+1) b->P a b)/\∀a c b,a<s.size->zcE s a->zaB zbC s a c->P c b->P a b
def Skip (s:BA0) (a b:Nat):Prop:=∀P,zp2 s P->P a b
theorem Skip.done {s:BA0}:Skip s s.size s.size:=fun _ k=>k.1
theorem Skip.stop {s:BA0} {a:Nat} (h:a<s.size) (q: ¬zcT (bt s a)) (w: ¬zcE s a):Skip s a a:=fun _ k=>k.2.1 a h q w
theorem Skip.blank {s:BA0} {a b:Nat} (h:a<s.size) (q:zcT (bt s a)) (r:Skip s (a+1) b):Skip s a b:=fun P k=>k.2.2.1 a b h q (r P k)
theorem Skip.comment {s:BA0} {a c b:Nat} (h:a<s.size) (q:zcE s a) (w:zaB zbC s a c) (r:Skip s c b):Skip s a b:=fun P k=>k.2.2.2 a c b h q w (r P k)
theorem Skip.ind {s:BA0} {motive:(a b:Nat)->Skip s a b->Prop} {a b:Nat} (h:Skip s a b) (done:motive _ _ .done) (stop: ∀{a:Nat} (h:a<s.size) (h1: ¬zcT (bt s a)) (h2: ¬zcE s a),motive a a (.stop h h1 h2)) (blank: ∀{a b:Nat} (h:a<s.size) (h1:zcT (bt s a)) (r:Skip s (a+1) b),motive _ _ r->motive a b (.blank h h1 r)) (comment: ∀{a c b:Nat} (h:a<s.size) (h1:zcE s a) (hc:zaB zbC s a c) (r:Skip s c b),motive _ _ r->motive a b (.comment h h1 hc r)):motive a b h:=
 (h (fun a b=>∃k,motive a b k) ⟨⟨_,done⟩,fun _ h h1 h2=>⟨_,stop h h1 h2⟩,fun _ _ h h1 ⟨r,k⟩=>⟨_,blank h h1 r k⟩,fun _ _ _ h h1 hc ⟨r,k⟩=>⟨_,comment h h1 hc r k⟩⟩).2
theorem Skip.elim {s:BA0} {motive:(a b:Nat)->Skip s a b->Prop} {a b:Nat} (h:Skip s a b) (done:motive _ _ .done) (stop: ∀{a:Nat} (h:a<s.size) (h1: ¬zcT (bt s a)) (h2: ¬zcE s a),motive a a (.stop h h1 h2)) (blank: ∀{a b:Nat} (h:a<s.size) (h1:zcT (bt s a)) (r:Skip s (a+1) b),motive a b (.blank h h1 r)) (comment: ∀{a c b:Nat} (h:a<s.size) (h1:zcE s a) (hc:zaB zbC s a c) (r:Skip s c b),motive a b (.comment h h1 hc r)):motive a b h:=
 h.ind done stop (fun h h1 r _=>blank h h1 r) (fun h h1 hc r _=>comment h h1 hc r)
theorem zkt {s:BA0} {a:Nat} (h:zcE s a): ¬zcT (bt s a):=by rw[h.1];unfold zcT;omega
theorem zku {s:BA0} {a J b2:Nat} (K:Skip s a J):Skip s a b2->J=b2:=by
 induction K using Skip.ind with
 |done=>
  intro q;generalize M:s.size=x at q;cases q using Skip.elim with
  |done=>rfl
  |stop h _ _=>omega
  |blank h _ _=>omega
  |comment h _ _ _=>omega
 |stop h w A=>
  intro q;cases q using Skip.elim with
  |done=>rfl
  |stop _ _ _=>rfl
  |blank _ k _=>exact absurd k w
  |comment _ k _ _=>exact absurd k A
 |blank h k _ H=>
  intro q;cases q using Skip.elim with
  |done=>exact absurd h (lt_irrefl _)
  |stop _ w _=>exact absurd k w
  |blank _ _ r=>exact H r
  |comment _ w _ _=>exact absurd k (zkt w)
 |comment h k L _ H=>
  intro q;cases q using Skip.elim with
  |done=>exact absurd h (lt_irrefl _)
  |stop _ _ A=>exact absurd k A
  |blank _ w _=>exact absurd w (zkt k)
  |comment _ _ I r=>have:=zfS L I;subst this;exact H r
theorem zis {s:BA0} {a b:Nat} (h:Skip s a b):a<=b/\b<=s.size:=by
 induction h using Skip.ind with
 |done=>exact⟨le_refl _,le_refl _⟩
 |stop h _ _=>exact⟨le_refl _,by omega⟩
 |blank h _ _ q=>exact⟨by omega,q.2⟩
 |comment h _ w _ q=>exact⟨by have:=w.1;omega,q.2⟩
def LxK (s:BA0) (scr:Bool) (P:Nat->Nat->Except Nat (List Tk)->Prop):Prop:=(∀n,P s.size n (.ok []))/\(∀a n,a<s.size->(4000<=n∨∀t e,¬Tok s scr a t e)->P a n (.error a))/\∀a n e b t r,a<s.size->n<4000->Tok s scr a t e->Skip s e b->P b (n+1) r->P a n (r.map (t:: ·))
def Lx (s:BA0) (scr:Bool) (a n:Nat) (r:Except Nat (List Tk)):Prop:=∀P,LxK s scr P->P a n r
theorem Lx.done {s:BA0} {h:Bool} {n:Nat}:Lx s h s.size n (.ok []):=fun _ k=>k.1 n
theorem Lx.bad {s:BA0} {q:Bool} {a n:Nat} (h:a<s.size) (w:4000<=n∨∀t e,¬Tok s q a t e):Lx s q a n (.error a):=fun _ k=>k.2.1 a n h w
theorem Lx.tok {s:BA0} {q:Bool} {a n e b:Nat} {t:Tk} {r:Except Nat (List Tk)} (h:a<s.size) (I:n<4000) (A:Tok s q a t e) (H:Skip s e b) (w:Lx s q b (n+1) r):Lx s q a n (r.map (t:: ·)):=fun P k=>k.2.2 a n e b t r h I A H (w P k)
theorem Lx.ind {s:BA0} {scr:Bool} {motive:(a n:Nat)->(r:Except Nat (List Tk))->Lx s scr a n r->Prop} {a n:Nat} {r:Except Nat (List Tk)} (h:Lx s scr a n r) (done: ∀{n:Nat},motive _ n _ .done) (bad: ∀{a n:Nat} (h:a<s.size) (h1:4000<=n∨∀t e,¬Tok s scr a t e),motive a n _ (.bad h h1)) (tok: ∀{a n e b:Nat} {t:Tk} {r:Except Nat (List Tk)} (h:a<s.size) (hn:n<4000) (ht:Tok s scr a t e) (hs:Skip s e b) (hr:Lx s scr b (n+1) r),motive _ _ _ hr->motive a n _ (.tok h hn ht hs hr)):motive a n r h:=
 (h (fun a n r=>∃k,motive a n r k) ⟨fun _=>⟨_,done⟩,fun _ _ h h1=>⟨_,bad h h1⟩,fun _ _ _ _ _ _ h hn ht hs ⟨hr,k⟩=>⟨_,tok h hn ht hs hr k⟩⟩).2
theorem Lx.elim {s:BA0} {scr:Bool} {motive:(a n:Nat)->(r:Except Nat (List Tk))->Lx s scr a n r->Prop} {a n:Nat} {r:Except Nat (List Tk)} (h:Lx s scr a n r) (done: ∀{n:Nat},motive _ n _ .done) (bad: ∀{a n:Nat} (h:a<s.size) (h1:4000<=n∨∀t e,¬Tok s scr a t e),motive a n _ (.bad h h1)) (tok: ∀{a n e b:Nat} {t:Tk} {r:Except Nat (List Tk)} (h:a<s.size) (hn:n<4000) (ht:Tok s scr a t e) (hs:Skip s e b) (hr:Lx s scr b (n+1) r),motive a n _ (.tok h hn ht hs hr)):motive a n r h:=
 h.ind done bad (fun h hn ht hs hr _=>tok h hn ht hs hr)
theorem zp3 {s:BA0} {w:Bool} {a n:Nat} {K I:Except Nat (List Tk)} (M:Lx s w a n K):Lx s w a n I->K=I:=by
 induction M using Lx.ind generalizing I with
 |done=>
  intro q;generalize U:s.size=x at q;cases q using Lx.elim with
  |done=>rfl
  |bad h _=>omega
  |tok h _ _ _ _=>omega
 |bad h k=>
  intro q;cases q using Lx.elim with
  |done=>exact absurd h (lt_irrefl _)
  |bad _ _=>rfl
  |tok _ O A _ _=>exact k.elim (fun k=>by omega) fun k=>absurd A (k _ _)
 |tok h O A N _ L=>
  intro q;cases q using Lx.elim with
  |done=>exact absurd h (lt_irrefl _)
  |bad _ k=>exact k.elim (fun k=>by omega) fun k=>absurd A (k _ _)
  |tok _ _ H J r=>
   obtain⟨rfl,rfl⟩:=zp1 A H;have:=zku N J;subst this;rw[L r]
def zap (s:BA0) (scr:Bool) (r:Except Nat (List Tk)):Prop:=∃a,Skip s 0 a/\Lx s scr a 0 r
theorem zp4 {s:BA0} {h:Bool} {w q:Except Nat (List Tk)} (K:zap s h w) (H:zap s h q):w=q:=by
 obtain⟨a,L,I⟩:=K;obtain⟨b,A,J⟩:=H;have:=zku L A;subst this;exact zp3 I J
structure Ex where
 kind:Int
 num:Int
 name:BA0
 field:BA0
 l:Int
 r:Int
structure Sm where
 kind:Int
 name:BA0
 expr:Int
structure Im where
 spec:BA0
 first:BA0
 loc:BA0
structure Ep where
 kind:Int
 name:BA0
 loc:BA0
 spec:BA0
structure Cx where
 ts:List Tk
 fin:Nat
 scr:Bool
structure PS where
 pos:Nat
 rq:List BA0
 im:List Im
 ep:List Ep
 st:List Sm
 ex:List Ex
 la:List Ep
abbrev PR:=Except Nat PS
abbrev zat:BA0:={data:=#[105,109,112,111,114,116]}
abbrev zaq:BA0:={data:=#[101,120,112,111,114,116]}
abbrev sDefault:BA0:={data:=#[100,101,102,97,117,108,116]}
abbrev zN:BA0:={data:=#[108,101,116]}
abbrev zab:BA0:={data:=#[102,117,110,99,116,105,111,110]}
abbrev zfk:BA0:={data:=#[114,101,116,117,114,110]}
abbrev za5:BA0:={data:=#[112,114,105,110,116]}
abbrev zaI:BA0:={data:=#[116,104,114,111,119]}
abbrev zch:BA0:={data:=#[102,97,105,108]}
abbrev zaM:BA0:={data:=#[117,110,100,101,102]}
abbrev sAs:BA0:={data:=#[97,115]}
abbrev zac:BA0:={data:=#[102,114,111,109]}
abbrev zc2:BA0:={data:=#[42,100,101,102,97,117,108,116]}
abbrev zu:BA0:={data:=#[40]}
abbrev zaF:BA0:={data:=#[41]}
abbrev zG:BA0:={data:=#[42]}
abbrev zcF:BA0:={data:=#[43]}
abbrev zbS:BA0:={data:=#[44]}
abbrev zb0:BA0:={data:=#[45]}
abbrev cPoint:BA0:={data:=#[46]}
abbrev cSemi:BA0:={data:=#[59]}
abbrev cEq:BA0:={data:=#[61]}
abbrev zU:BA0:={data:=#[123]}
abbrev zbE:BA0:={data:=#[125]}
def bd {α β:Type} (x:Except Nat α) (f:α->Except Nat β):Except Nat β:=
 match x with
 | .ok a=>f a
 | .error e=>.error e
theorem zJ {α β:Type} (a:α) (f:α->Except Nat β):bd (.ok a) f=f a:=rfl
theorem zfl {α β:Type} (e:Nat) (f:α->Except Nat β):bd (.error e) f= .error e:=rfl
theorem zX {α β γ:Type} (x:Except Nat α) (f:α->Except Nat β) (g:β->Except Nat γ):bd (bd x f) g=bd x fun a=>bd (f a) g:=by cases x<;>rfl
theorem zam {α β:Type} {x:Except Nat α} {f g:α->Except Nat β} (h: ∀a,x= .ok a->f a=g a):bd x f=bd x g:=by
 cases x with
 |ok a=>exact h a rfl
 |error e=>rfl
theorem zr {α β:Type} {x:Except Nat α} {f:α->Except Nat β} {b:β} (h:bd x f= .ok b): ∃a,x= .ok a/\f a= .ok b:=by
 cases x with
 |ok a=>exact⟨a,rfl,h⟩
 |error e=>cases h
def ze (C:Cx) (i:Nat):Tk:=C.ts.getD i ⟨0,sNone,0,C.fin⟩
def zz (C:Cx) (i:Nat):Nat:=(ze C i).pos
def isT (C:Cx) (i:Nat) (k:Int) (x:BA0):Bool:=((ze C i).kind==k)&&((ze C i).text.toList==x.toList)
def adv (q:PS):PS:={q with pos:=q.pos+1}
def zd (C:Cx) (k:Int) (x:BA0) (q:PS):PR:=if isT C q.pos k x then .ok (adv q) else .error (zz C q.pos)
def zB (x:BA0) (scr:Bool):Bool:=
 x.toList==[105,109,112,111,114,116]||x.toList==[101,120,112,111,114,116]||x.toList==[100,101,102,97,117,108,116]||x.toList==[108,101,116]||x.toList==[102,117,110,99,116,105,111,110]||x.toList==[114,101,116,117,114,110]||x.toList==[112,114,105,110,116]||x.toList==[116,104,114,111,119]
  ||((x.toList==[102,97,105,108]||x.toList==[117,110,100,101,102])&&scr)
def zO (C:Cx) (i:Nat) (o:Bool):Bool:=((ze C i).kind==1)&&(!zB (ze C i).text C.scr||(o&&((ze C i).text.toList==[100,101,102,97,117,108,116])))
def zq (C:Cx) (o:Bool) (q:PS):Except Nat (PS×BA0):=if zO C q.pos o then .ok (adv q,(ze C q.pos).text) else .error (zz C q.pos)
def zbb (l:List BA0) (x:BA0):Bool:=l.any fun y=>y.toList==x.toList
def zR (C:Cx) (q:PS):Except Nat (PS×BA0):=
 if (ze C q.pos).kind==3 then
  if zbb q.rq (ze C q.pos).text then .ok (adv q,(ze C q.pos).text)
  else if 40<=q.rq.length then .error (zz C q.pos)
  else .ok ({adv q with rq:=q.rq++[(ze C q.pos).text]},(ze C q.pos).text)
 else .error (zz C q.pos)
def zau (C:Cx) (x:Im) (q:PS):PR:=if 40<=q.im.length then .error (zz C (q.pos-1)) else .ok {q with im:=q.im++[x]}
def zv (C:Cx) (x:Ep) (q:PS):PR:=
 if 40<=q.ep.length+q.la.length then .error (zz C (q.pos-1))
 else if x.loc.toList==[42,100,101,102,97,117,108,116] then .ok {q with la:=q.la++[x]} else .ok {q with ep:=q.ep++[x]}
def zae (C:Cx) (k:Int) (n:BA0) (q:PS):PR:=if 80<=q.st.length then .error (zz C (q.pos-1)) else .ok {q with st:=q.st++[⟨k,n,(q.ex.length:Int)-1⟩]}
def zZ (C:Cx) (x:Ex) (q:PS):PR:=if 300<=q.ex.length then .error (zz C (q.pos-1)) else .ok {q with ex:=q.ex++[x]}
def zbT (C:Cx) (n:BA0) (q:PS):PR:=
 if isT C q.pos 4 zu then bd (bd (zd C 4 zu q) (zd C 4 zaF)) (zZ C ⟨3,0,n,sNone,0,0⟩) else zZ C ⟨2,0,n,sNone,0,0⟩ q
def zci (C:Cx) (n f:BA0) (q:PS):PR:=
 if isT C q.pos 4 zu then bd (bd (zd C 4 zu q) (zd C 4 zaF)) (zZ C ⟨5,0,n,f,0,0⟩) else zZ C ⟨4,0,n,f,0,0⟩ q
abbrev NT:Type:=Option (Option (Option (Option Unit)))
abbrev NT.sum:NT:=none
abbrev NT.sumT:NT:=some none
abbrev NT.prod:NT:=some (some none)
abbrev NT.prodT:NT:=some (some (some none))
abbrev NT.part:NT:=some (some (some (some ())))
theorem NT.elim {motive:NT->Prop} (nt:NT) (sum:motive .sum) (sumT:motive .sumT) (prod:motive .prod) (prodT:motive .prodT) (part:motive .part):motive nt:=
 match nt with
 |none=>sum
 |some none=>sumT
 |some (some none)=>prod
 |some (some (some none))=>prodT
 |some (some (some (some ())))=>part
def zdR (C:Cx) (i:Nat):Int:=if isT C i 4 zb0 then 7 else 6
def ev (C:Cx):Nat->NT->Nat->PS->PR
 |0,_,_,_=>.error 0
 |f+1,none,d,q=>bd (ev C f .prod d q) (ev C f .sumT d)
 |f+1,some none,d,q=>
  if isT C q.pos 4 zcF||isT C q.pos 4 zb0 then
   bd (bd (ev C f .prod d (adv q)) fun q'=>zZ C ⟨zdR C q.pos,0,sNone,sNone,(q.ex.length:Int)-1,(q'.ex.length:Int)-1⟩ q') (ev C f .sumT d)
  else .ok q
 |f+1,some (some none),d,q=>bd (ev C f .part d q) (ev C f .prodT d)
 |f+1,some (some (some none)),d,q=>
  if isT C q.pos 4 zG then
   bd (bd (ev C f .part d (adv q)) fun q'=>zZ C ⟨8,0,sNone,sNone,(q.ex.length:Int)-1,(q'.ex.length:Int)-1⟩ q') (ev C f .prodT d)
  else .ok q
 |f+1,some (some (some (some ()))),d,q=>
  if (ze C q.pos).kind==2 then zZ C ⟨1,(ze C q.pos).num,sNone,sNone,0,0⟩ (adv q)
  else if isT C q.pos 4 zu then
   if 20<=d then .error (zz C q.pos) else bd (ev C f .sum (d+1) (adv q)) (zd C 4 zaF)
  else if C.scr&&isT C q.pos 1 zaM then zbT C zaM (adv q)
  else bd (zq C false q) fun x=>if isT C x.1.pos 4 cPoint then bd (zq C true (adv x.1)) fun y=>zci C x.2 y.2 y.1 else zbT C x.2 x.1
def nd (C:Cx) (nt:NT) (q:PS):Nat:=
 5*(C.ts.length-q.pos)+match nt with
  | .sum=>3
  | .prod=>2
  |_=>1
def pE (C:Cx) (nt:NT) (d:Nat) (q:PS):PR:=ev C (nd C nt q) nt d q
theorem ze8 {C:Cx} {i:Nat} (h:C.ts.length<=i):ze C i=⟨0,sNone,0,C.fin⟩:=by simp[ze,List.getD,List.getElem?_eq_none h]
theorem zaG {C:Cx} {i:Nat} {k:Int} {x:BA0} (h:isT C i k x=true) (q:k≠0):i<C.ts.length:=by
 rcases lt_or_ge i C.ts.length with g|g
 ·exact g
 ·simp only[isT,ze8 g,Bool.and_eq_true,beq_iff_eq] at h;exact absurd h.1.symm q
theorem zgO {C:Cx} {i:Nat} {k:Int} (h:((ze C i).kind==k)=true) (q:k≠0):i<C.ts.length:=by
 rcases lt_or_ge i C.ts.length with g|g
 ·exact g
 ·simp only[ze8 g,beq_iff_eq] at h;exact absurd h.symm q
theorem zfT {C:Cx} {i:Nat} {o:Bool} (h:zO C i o=true):i<C.ts.length:=by
 simp only[zO,Bool.and_eq_true] at h;exact zgO h.1 (by decide)
theorem zcj {C:Cx} {k:Int} {x:BA0} {q q':PS} (h:zd C k x q= .ok q'):q'=adv q/\isT C q.pos k x=true:=by
 unfold zd at h
 split at h
 ·next g=>exact⟨by cases h;rfl,g⟩
 ·cases h
theorem zbF {C:Cx} {o:Bool} {q:PS} {y:PS×BA0} (h:zq C o q= .ok y):y=(adv q,(ze C q.pos).text)/\zO C q.pos o=true:=by
 unfold zq at h
 split at h
 ·next g=>exact⟨by cases h;rfl,g⟩
 ·cases h
theorem zbG {C:Cx} {x:Ex} {q q':PS} (h:zZ C x q= .ok q'):q'={q with ex:=q.ex++[x]}/\q.ex.length<300:=by
 unfold zZ at h
 split at h
 ·cases h
 ·cases h;exact⟨rfl,by omega⟩
theorem zH (q:PS):(adv q).pos=q.pos+1:=rfl
theorem zkv {C:Cx} {n:BA0} {q q':PS} (h:zbT C n q= .ok q'):q.pos<=q'.pos:=by
 unfold zbT at h
 split at h
 ·obtain⟨a,w,A⟩:=zr h;obtain⟨b,I,H⟩:=zr w;obtain⟨rfl,_⟩:=zcj I;obtain⟨rfl,_⟩:=zcj H;obtain⟨rfl,_⟩:=zbG A;show q.pos<=q.pos+1+1;omega
 ·obtain⟨rfl,_⟩:=zbG h;exact le_refl _
theorem zp5 {C:Cx} {n f:BA0} {q q':PS} (h:zci C n f q= .ok q'):q.pos<=q'.pos:=by
 unfold zci at h
 split at h
 ·obtain⟨a,w,A⟩:=zr h;obtain⟨b,I,H⟩:=zr w;obtain⟨rfl,_⟩:=zcj I;obtain⟨rfl,_⟩:=zcj H;obtain⟨rfl,_⟩:=zbG A;show q.pos<=q.pos+1+1;omega
 ·obtain⟨rfl,_⟩:=zbG h;exact le_refl _
theorem zfU {C:Cx} (f:Nat): ∀(K:NT) (d:Nat) (q q':PS),ev C f K d q= .ok q'->q.pos<=q'.pos:=by
 induction f with
 |zero=>intro K d q q' h;cases K using NT.elim<;>cases h
 |succ f H=>
  intro K d q q' h;cases K using NT.elim with
  |sum=>
   rw[ev] at h;obtain⟨a,A,w⟩:=zr h;exact le_trans (H _ _ _ _ A) (H _ _ _ _ w)
  |prod=>
   rw[ev] at h;obtain⟨a,A,w⟩:=zr h;exact le_trans (H _ _ _ _ A) (H _ _ _ _ w)
  |sumT=>
   rw[ev] at h
   split at h
   ·obtain⟨a,A,w⟩:=zr h;obtain⟨b,L,J⟩:=zr A;obtain⟨rfl,_⟩:=zbG J;have I:=H _ _ _ _ L;have M:=H _ _ _ _ w;rw[zH] at I;exact le_trans (by omega:q.pos<=b.pos) M
   ·cases h;exact le_refl _
  |prodT=>
   rw[ev] at h
   split at h
   ·obtain⟨a,A,w⟩:=zr h;obtain⟨b,L,J⟩:=zr A;obtain⟨rfl,_⟩:=zbG J;have I:=H _ _ _ _ L;have M:=H _ _ _ _ w;rw[zH] at I;exact le_trans (by omega:q.pos<=b.pos) M
   ·cases h;exact le_refl _
  |part=>
   rw[ev] at h
   split at h
   ·obtain⟨rfl,_⟩:=zbG h;show q.pos<=q.pos+1;omega
   ·split at h
    ·split at h
     ·cases h
     ·obtain⟨a,A,w⟩:=zr h;obtain⟨rfl,_⟩:=zcj w;have I:=H _ _ _ _ A;rw[zH] at I ⊢;omega
    ·split at h
     ·have:=zkv h;rw[zH] at this;omega
     ·obtain⟨y,A,w⟩:=zr h;obtain⟨rfl,_⟩:=zbF A;simp only at w
      split at w
      ·obtain⟨z,L,J⟩:=zr w;obtain⟨rfl,_⟩:=zbF L;have:=zp5 J;simp only[zH] at this;omega
      ·have:=zkv w;rw[zH] at this;omega
theorem zp6 {C:Cx} (f:Nat): ∀(g:Nat) (A:NT) (d:Nat) (q:PS),nd C A q<=f->nd C A q<=g->ev C f A d q=ev C g A d q:=by
 induction f with
 |zero=>intro g A d q h;unfold nd at h;cases A using NT.elim<;>simp at h
 |succ f w=>
  intro g A d q L I;obtain⟨g,rfl⟩: ∃O,g=O+1:=by
   match g with
   |0=>unfold nd at I;cases A using NT.elim<;>simp at I
   |g+1=>exact⟨g,rfl⟩
  cases A using NT.elim with
  |sum=>
   simp only[nd] at L I;rw[ev,ev,w g .prod d q (by simp only[nd];omega) (by simp only[nd];omega)];refine zam fun a H=>?_;have:=zfU _ _ _ _ _ H;exact w g .sumT d a (by simp only[nd];omega) (by simp only[nd];omega)
  |prod=>
   simp only[nd] at L I;rw[ev,ev,w g .part d q (by simp only[nd];omega) (by simp only[nd];omega)];refine zam fun a H=>?_;have:=zfU _ _ _ _ _ H;exact w g .prodT d a (by simp only[nd];omega) (by simp only[nd];omega)
  |sumT=>
   simp only[nd] at L I;rw[ev,ev]
   split
   ·next J=>
    have K:q.pos<C.ts.length:=by
     rw[Bool.or_eq_true] at J;exact J.elim (fun k=>zaG k (by decide)) fun k=>zaG k (by decide)
    rw[w g .prod d (adv q) (by simp only[nd,zH];omega) (by simp only[nd,zH];omega)];refine zam fun a H=>?_;obtain⟨b,N,M⟩:=zr H;obtain⟨rfl,_⟩:=zbG M;have:=zfU _ _ _ _ _ N;rw[zH] at this;exact w g .sumT d _ (by simp only[nd];omega) (by simp only[nd];omega)
   ·rfl
  |prodT=>
   simp only[nd] at L I;rw[ev,ev]
   split
   ·next J=>
    have K:q.pos<C.ts.length:=zaG J (by decide);rw[w g .part d (adv q) (by simp only[nd,zH];omega) (by simp only[nd,zH];omega)];refine zam fun a H=>?_;obtain⟨b,N,M⟩:=zr H;obtain⟨rfl,_⟩:=zbG M;have:=zfU _ _ _ _ _ N;rw[zH] at this;exact w g .prodT d _ (by simp only[nd];omega) (by simp only[nd];omega)
   ·rfl
  |part=>
   simp only[nd] at L I;rw[ev,ev]
   split
   ·rfl
   ·split
    ·next J=>
     have K:q.pos<C.ts.length:=zaG J (by decide)
     split
     ·rfl
     ·rw[w g .sum (d+1) (adv q) (by simp only[nd,zH];omega) (by simp only[nd,zH];omega)]
    ·rfl
theorem zd1 {C:Cx} {f d:Nat} {w:NT} {q:PS} (h:nd C w q<=f):ev C f w d q=pE C w d q:=zp6 f _ w d q h (le_refl _)
theorem zbt {C:Cx} {w:NT} {d:Nat} {q q':PS} (h:pE C w d q= .ok q'):q.pos<=q'.pos:=zfU _ _ _ _ _ h
theorem zfV {C:Cx} {h:NT} {d:Nat} {q:PS}:pE C h d q=ev C (nd C h q+1) h d q:=(zd1 (Nat.le_succ _)).symm
theorem zkw (C:Cx) (d:Nat) (q:PS):pE C .sum d q=bd (pE C .prod d q) (pE C .sumT d):=by
 rw[zfV,ev,zd1 (by simp only[nd];omega)];refine zam fun a h=>?_;have:=zbt h;exact zd1 (by simp only[nd];omega)
theorem zkx (C:Cx) (d:Nat) (q:PS):pE C .prod d q=bd (pE C .part d q) (pE C .prodT d):=by
 rw[zfV,ev,zd1 (by simp only[nd];omega)];refine zam fun a h=>?_;have:=zbt h;exact zd1 (by simp only[nd];omega)
theorem zfW (C:Cx) (d:Nat) (q:PS):pE C .sumT d q=
  if isT C q.pos 4 zcF||isT C q.pos 4 zb0 then
   bd (bd (pE C .prod d (adv q)) fun q'=>zZ C ⟨zdR C q.pos,0,sNone,sNone,(q.ex.length:Int)-1,(q'.ex.length:Int)-1⟩ q') (pE C .sumT d)
  else .ok q:=by
 rw[zfV,ev]
 split
 ·next h=>
  have w:q.pos<C.ts.length:=by
   rw[Bool.or_eq_true] at h;exact h.elim (fun k=>zaG k (by decide)) fun k=>zaG k (by decide)
  rw[zd1 (by simp only[nd,zH];omega)];refine zam fun a A=>?_;obtain⟨b,I,H⟩:=zr A;obtain⟨rfl,_⟩:=zbG H;have:=zbt I;rw[zH] at this;exact zd1 (by simp only[nd];omega)
 ·rfl
theorem zgP (C:Cx) (d:Nat) (q:PS):pE C .prodT d q=
  if isT C q.pos 4 zG then
   bd (bd (pE C .part d (adv q)) fun q'=>zZ C ⟨8,0,sNone,sNone,(q.ex.length:Int)-1,(q'.ex.length:Int)-1⟩ q') (pE C .prodT d)
  else .ok q:=by
 rw[zfV,ev]
 split
 ·next I=>
  have h:q.pos<C.ts.length:=zaG I (by decide);rw[zd1 (by simp only[nd,zH];omega)];refine zam fun a w=>?_;obtain⟨b,H,A⟩:=zr w;obtain⟨rfl,_⟩:=zbG A;have:=zbt H;rw[zH] at this;exact zd1 (by simp only[nd];omega)
 ·rfl
theorem zcc (C:Cx) (d:Nat) (q:PS):pE C .part d q=
  if (ze C q.pos).kind==2 then zZ C ⟨1,(ze C q.pos).num,sNone,sNone,0,0⟩ (adv q)
  else if isT C q.pos 4 zu then
   if 20<=d then .error (zz C q.pos) else bd (pE C .sum (d+1) (adv q)) (zd C 4 zaF)
  else if C.scr&&isT C q.pos 1 zaM then zbT C zaM (adv q)
  else bd (zq C false q) fun x=>if isT C x.1.pos 4 cPoint then bd (zq C true (adv x.1)) fun y=>zci C x.2 y.2 y.1 else zbT C x.2 x.1:=by
 rw[zfV,ev]
 split
 ·rfl
 ·split
  ·next h=>
   have w:q.pos<C.ts.length:=zaG h (by decide)
   split
   ·rfl
   ·rw[zd1 (by simp only[nd,zH];omega)]
  ·rfl
theorem zfX (k:Nat):(0:Int)<10^k:=Int.pow_pos (by omega)
theorem ze9 (k:Nat):(10:Int)^(k+1)=10^k*10:=Int.pow_succ _ _
theorem zfY {a b:Nat} (h:a<=b):(10:Int)^a<=10^b:=by
 induction b with
 |zero=>
  obtain rfl:a=0:=by omega
  exact Int.le_refl _
 |succ b q=>
  by_cases e:a=b+1
  ·rw[e];exact Int.le_refl _
  ·have:=q (by omega);have:=zfX b;rw[ze9];omega
theorem zfm (n:Int) (k:Nat):n/10^k/10=n/10^(k+1):=by
 rw[ze9,Int.ediv_ediv_of_nonneg (Int.le_of_lt (zfX k))]
theorem zfn (n:Int) (k:Nat) (h:0<=n):0<=n/10^k/\n/10^k<=n:=
 ⟨Int.ediv_nonneg h (Int.le_of_lt (zfX k)),Int.ediv_le_self _ h⟩
def dc:Nat->Int->Nat
 |0,_=>1
 |f+1,q=>if q<10 then 1 else dc f (q/10)+1
theorem zp7 (f:Nat) (q:Int) (H:0<=q) (h:q<10^(f+1)):1<=dc f q/\dc f q<=f+1/\q<10^dc f q/\(dc f q=1∨10^(dc f q-1)<=q):=by
 induction f generalizing q with
 |zero=>simpa [dc] using h
 |succ f A=>
  unfold dc;by_cases w:q<10
  ·rw[if_pos w];exact⟨by omega,by omega,by simpa using w,.inl rfl⟩
  ·rw[if_neg w];obtain⟨a,b,c,d⟩:=A (q/10) (by omega) (by rw[ze9] at h;omega);refine⟨by omega,by omega,?_,.inr ?_⟩
   ·rw[ze9];omega
   ·rw[Nat.add_sub_cancel];rcases d with d|d
    ·rw[d];show (10:Int)^1<=q;rw[show (10:Int)^1=10 from by decide];omega
    ·rw[show dc f (q/10)=(dc f (q/10)-1)+1 from by omega,ze9];omega
def dcn (m:Int):Nat:=dc 19 m
theorem zdS (m:Int) (q:0<=m) (h:m<=18446744073709551615):1<=dcn m/\dcn m<=20/\m<10^dcn m/\(dcn m=1∨10^(dcn m-1)<=m):=
 zp7 19 m q (by rw[show (10:Int)^(19+1)=100000000000000000000 by decide];omega)
theorem zp8 (m:Int) (w:0<=m) (h:m<=18446744073709551615) (k:Nat):10<=m/10^k↔k+1<dcn m:=by
 obtain⟨a,b,c,d⟩:=zdS m w h;rw[Int.le_ediv_iff_mul_le (zfX k),Int.mul_comm,<-ze9];constructor
 ·intro q;rcases lt_or_ge (k+1) (dcn m) with e|e
  ·exact e
  ·have:=zfY e;omega
 ·intro q;have:=zfY (show k+1<=dcn m-1 by omega);omega
theorem zky (m:Int) (w:1<=m) (h:m<=18446744073709551615) (k:Nat):m/10^k≠0↔k<dcn m:=by
 obtain⟨a,b,c,d⟩:=zdS m (by omega) h;have A:=zfn m k (by omega);have:m/10^k≠0↔1<=m/10^k:=by omega
 rw[this,Int.le_ediv_iff_mul_le (zfX k),Int.one_mul];constructor
 ·intro q;rcases lt_or_ge k (dcn m) with e|e
  ·exact e
  ·have:=zfY e;omega
 ·intro q;have:=zfY (show k<=dcn m-1 by omega);rcases d with d|d
  ·obtain rfl:k=0:=by omega
   simpa using w
  ·omega
def dgk (m:Int):Nat->List Int
 |0=>[]
 |k+1=>(48+m/10^k%10)::dgk m k
theorem zcU (m:Int) (k:Nat):(dgk m k).length=k:=by
 induction k with
 |zero=>rfl
 |succ k h=>simp[dgk,h]
theorem zkz (m:Int) (c k:Nat) (h:k<c):(dgk m c)[c-1-k]? =some (48+m/10^k%10):=by
 induction c with
 |zero=>omega
 |succ c q=>
  by_cases e:k=c
  ·subst e;rw[show k+1-1-k=0 from by omega];rfl
  ·rw[show c+1-1-k=(c-1-k)+1 from by omega,dgk,List.getElem?_cons_succ];exact q (by omega)
def zgQ (n:Int):Int:=if n<0 then-n else n
def zck (n:Int):List Int:=(if n<0 then [45] else [])++dgk (zgQ n) (dcn (zgQ n))
theorem zit {n:Int} (h:n<0):zck n=45::dgk (-n) (dcn (-n)):=by simp[zck,h,zgQ]
theorem ziu {n:Int} (h:0<=n):zck n=dgk n (dcn n):=by
 have: ¬n<0:=by omega
 simp[zck,this,zgQ]
theorem zp9 (L:List Int):zdf L L.length=L:=by simp[zdf]
theorem zpA (x:Int) (L:List Int):(zdf (x::L) L.length).set 0 x=x::L:=by
 simp[zdf]
theorem zpB (p:List Int) (m:Int) (c k:Nat) (h:k<c):(p++dgk m c)[(p++dgk m c).length-1-k]? =some (48+m/10^k%10):=by
 rw[List.length_append,zcU,List.getElem?_append_right (by omega),show p.length+c-1-k-p.length=c-1-k from by omega];exact zkz m c k h
structure Md where
 rq:List BA0
 im:List Im
 ep:List Ep
 st:List Sm
 ex:List Ex
def zfo (q:PS):Md:=⟨q.rq,q.im,q.ep++q.la,q.st,q.ex⟩
def zY (k:Int):Bool:=k==6||k==7
def zag (k:Int):Bool:=k==6||k==7||k==8
def zj:Ex:=⟨0,0,sNone,sNone,0,0⟩
abbrev cParens:BA0:={data:=#[40,41]}
abbrev tPlus:BA0:={data:=#[32,43,32]}
abbrev tMinus:BA0:={data:=#[32,45,32]}
abbrev tStar:BA0:={data:=#[32,42,32]}
def zP (b:Bool) (t:BA0):BA0:=if b then zu++t++zaF else t
def prE (ex:List Ex):Nat->Nat->BA0
 |0,_=>sNone
 |f+1,i=>
  let x:=ex.getD i zj
  if x.kind==1 then strOfNums (zck x.num)
  else if x.kind==2 then x.name
  else if x.kind==3 then x.name++cParens
  else if x.kind==4 then x.name++cPoint++x.field
  else if x.kind==5 then x.name++cPoint++x.field++cParens
  else if x.kind==6 then prE ex f x.l.toNat++tPlus++zP (zY (ex.getD x.r.toNat zj).kind) (prE ex f x.r.toNat)
  else if x.kind==7 then prE ex f x.l.toNat++tMinus++zP (zY (ex.getD x.r.toNat zj).kind) (prE ex f x.r.toNat)
  else if x.kind==8 then zP (zY (ex.getD x.l.toNat zj).kind) (prE ex f x.l.toNat)++tStar++zP (zag (ex.getD x.r.toNat zj).kind) (prE ex f x.r.toNat)
  else sNone
def prX (ex:List Ex) (i:Nat):BA0:=prE ex (i+1) i
def zbH (ex:List Ex):Prop:=∀(i:Nat) (x:Ex),ex[i]? =some x->zag x.kind=true->0<=x.l/\x.l<(i:Int)/\0<=x.r/\x.r<(i:Int)
theorem zbU {k:Int} (h:(k==6)=true∨(k==7)=true∨(k==8)=true):zag k=true:=by
 unfold zag;rcases h with h|h|h<;>simp[h]
variable (g:Nat) (w:Nat->Nat) (b:Nat) {W:List Ex} {c:Nat} {C:Md}
theorem zgR (h:zbH W) {i:Nat} (q:zag (W.getD i zj).kind=true):0<=(W.getD i zj).l/\(W.getD i zj).l<(i:Int)/\0<=(W.getD i zj).r/\(W.getD i zj).r<(i:Int):=by
 by_cases w:i<W.length
 ·have e:W.getD i zj=W[i]:=by simp[List.getD,gE w]
  rw[e] at q ⊢;exact h i _ (gE w) q
 ·have e:W.getD i zj=zj:=by simp[List.getD,List.getElem?_eq_none (by omega:W.length<=i)]
  rw[e] at q;exact absurd q (by decide)
theorem zk0 (h:zbH W) (f:Nat): ∀(g i:Nat),i<f->i<g->prE W f i=prE W g i:=by
 induction f with
 |zero=>intro g i O;omega
 |succ f J=>
  intro g i N M;obtain⟨g,rfl⟩: ∃L,g=L+1:=⟨g-1,by omega⟩;rw[prE,prE];have K:=fun w=>zgR h (i:=i) w;generalize W.getD i zj=x at K ⊢;have q: ∀w:zag x.kind=true,prE W f x.l.toNat=prE W g x.l.toNat/\prE W f x.r.toNat=prE W g x.r.toNat:=fun w=>by
   have:=K w;exact⟨J g _ (by omega) (by omega),J g _ (by omega) (by omega)⟩
  by_cases A:(x.kind==6)=true
  ·rw[(q (zbU (.inl A))).1,(q (zbU (.inl A))).2]
  ·by_cases I:(x.kind==7)=true
   ·rw[(q (zbU (.inr (.inl I)))).1,(q (zbU (.inr (.inl I)))).2]
   ·by_cases H:(x.kind==8)=true
    ·rw[(q (zbU (.inr (.inr H)))).1,(q (zbU (.inr (.inr H)))).2]
    ·simp only[A,I,H,fE,↓reduceIte]
theorem ziv (h:zbH W) (i:Nat):prX W i=
  if (W.getD i zj).kind==1 then strOfNums (zck (W.getD i zj).num)
  else if (W.getD i zj).kind==2 then (W.getD i zj).name
  else if (W.getD i zj).kind==3 then (W.getD i zj).name++cParens
  else if (W.getD i zj).kind==4 then (W.getD i zj).name++cPoint++(W.getD i zj).field
  else if (W.getD i zj).kind==5 then (W.getD i zj).name++cPoint++(W.getD i zj).field++cParens
  else if (W.getD i zj).kind==6 then prX W (W.getD i zj).l.toNat++tPlus++zP (zY (W.getD (W.getD i zj).r.toNat zj).kind) (prX W (W.getD i zj).r.toNat)
  else if (W.getD i zj).kind==7 then prX W (W.getD i zj).l.toNat++tMinus++zP (zY (W.getD (W.getD i zj).r.toNat zj).kind) (prX W (W.getD i zj).r.toNat)
  else if (W.getD i zj).kind==8 then zP (zY (W.getD (W.getD i zj).l.toNat zj).kind) (prX W (W.getD i zj).l.toNat)++tStar++zP (zag (W.getD (W.getD i zj).r.toNat zj).kind) (prX W (W.getD i zj).r.toNat)
  else sNone:=by
 rw[prX,prE];have J:=fun w=>zgR h (i:=i) w;generalize W.getD i zj=x at J ⊢;have q: ∀w:zag x.kind=true,prE W i x.l.toNat=prX W x.l.toNat/\prE W i x.r.toNat=prX W x.r.toNat:=fun w=>by
  have:=J w;exact⟨zk0 h _ _ _ (by omega) (by omega),zk0 h _ _ _ (by omega) (by omega)⟩
 by_cases A:(x.kind==6)=true
 ·rw[(q (zbU (.inl A))).1,(q (zbU (.inl A))).2]
 ·by_cases I:(x.kind==7)=true
  ·rw[(q (zbU (.inr (.inl I)))).1,(q (zbU (.inr (.inl I)))).2]
  ·by_cases H:(x.kind==8)=true
   ·rw[(q (zbU (.inr (.inr H)))).1,(q (zbU (.inr (.inr H)))).2]
   ·simp only[A,I,H,fE,↓reduceIte]
def za0 (ex:List Ex) (k:Int):Nat:=(ex.map fun x=>if zag x.kind then (if x.l==k then 1 else 0)+(if x.r==k then 1 else 0) else 0).sum
def zaW (st:List Sm) (k:Int):Nat:=(st.map fun s=>if s.expr==k then 1 else 0).sum
structure Tree (m:Md):Prop where
 ahead:zbH m.ex
 stm: ∀s∈m.st,0<=s.expr/\s.expr<(m.ex.length:Int)
 once: ∀k,k<m.ex.length->za0 m.ex (k:Int)+zaW m.st (k:Int)=1
def sm (k:Nat) (f:Nat->Nat):Nat:=((List.range k).map f).sum
theorem zpC:sm 0 w=0:=rfl
theorem zem:sm (g+1) w=sm g w+w g:=by
 unfold sm;rw[List.range_succ,List.map_append,List.sum_append];simp
theorem ziw (S:Nat->Nat):sm g (fun j=>w j+S j)=sm g w+sm g S:=by
 induction g with
 |zero=>rfl
 |succ g h=>rw[zem,zem,zem,h];omega
theorem zeA {f g:Nat->Nat} (h: ∀j,j<c->f j=g j):sm c f=sm c g:=by
 induction c with
 |zero=>rfl
 |succ c q=>rw[zem,zem,q fun j w=>h j (by omega),h c (by omega)]
theorem zix:sm g (fun _=>0)=0:=by
 induction g with
 |zero=>rfl
 |succ g h=>rw[zem,h]
theorem ziy (l:Int) (H:0<=l) (h:l<(b:Int)):sm b (fun j=>(if l==(j:Int) then 1 else 0)*w j)=w l.toNat:=by
 induction b with
 |zero=>omega
 |succ b q=>
  rw[zem];by_cases e:l=(b:Int)
  ·have S:sm b (fun j=>(if l==(j:Int) then 1 else 0)*w j)=0:=(zeA (g:=fun _=>0) fun j A=>by rw[if_neg (by rw[beq_iff_eq];omega)];omega).trans (zix b);rw[S,if_pos (by rw[beq_iff_eq];exact e),show l.toNat=b from by omega];omega
  ·rw[q (by omega),if_neg (by rw[beq_iff_eq];exact e)];omega
def u1 (x:Ex) (k:Int):Nat:=if zag x.kind then (if x.l==k then 1 else 0)+(if x.r==k then 1 else 0) else 0
theorem zk1 (h:c<W.length) (k:Int):za0 (W.drop c) k=u1 W[c] k+za0 (W.drop (c+1)) k:=by
 rw[drop_eq_getElem_cons h,za0,map_cons,sum_cons];rfl
theorem zpD (h:W.length<=c) (k:Int):za0 (W.drop c) k=0:=by rw[List.drop_eq_nil_of_le h];rfl
theorem zpE (h:zbH W) (k:Nat) (H:k<W.length): ∀d j,j+d=k+1->za0 (W.drop j) (k:Int)=za0 (W.drop (k+1)) (k:Int):=by
 intro d
 induction d with
 |zero=>intro j q;rw[show j=k+1 from by omega]
 |succ d w=>
  intro j q;rw[zk1 (by omega),w (j+1) (by omega)];have:u1 W[j] (k:Int)=0:=by
   unfold u1
   split
   ·next A=>
    have:=h j _ (gE (by omega)) A;rw[if_neg (by rw[beq_iff_eq];omega),if_neg (by rw[beq_iff_eq];omega)]
   ·rfl
  omega
def wt (ex:List Ex) (i:Nat):Nat:=(prX ex i).size
def zen (x:Ex):Nat:=x.name.size+x.field.size+40
theorem zgS (b:Bool) (t:BA0):(zP b t).size<=t.size+2:=by
 unfold zP
 split
 ·rw[sA,sA];show 1+t.size+1<=t.size+2;omega
 ·omega
theorem zpF (n:Int) (w: -9223372036854775808<=n) (q:n<=9223372036854775807):(strOfNums (zck n)).size<=21:=by
 rw[strOfNums_size];by_cases h:n<0
 ·rw[zit h,List.length_cons,zcU];have:=(zdS (-n) (by omega) (by omega)).2.1;omega
 ·rw[ziu (by omega),zcU];have:=(zdS n (by omega) (by omega)).2.1;omega
theorem zpG (h:zbH W) (i:Nat) (H: -9223372036854775808<=(W.getD i zj).num/\(W.getD i zj).num<=9223372036854775807):
  wt W i<=zen (W.getD i zj)+if zag (W.getD i zj).kind then wt W (W.getD i zj).l.toNat+wt W (W.getD i zj).r.toNat else 0:=by
 unfold wt;rw[ziv h];generalize W.getD i zj=x at H ⊢;unfold zen;by_cases I:(x.kind==1)=true
 ·rw[if_pos I];have:=zpF x.num H.1 H.2;omega
 ·rw[if_neg I];by_cases J:(x.kind==2)=true
  ·rw[if_pos J];omega
  ·rw[if_neg J];by_cases K:(x.kind==3)=true
   ·rw[if_pos K,sA];have:cParens.size=2:=rfl;omega
   ·rw[if_neg K];by_cases M:(x.kind==4)=true
    ·rw[if_pos M,sA,sA];have:cPoint.size=1:=rfl;omega
    ·rw[if_neg M];by_cases L:(x.kind==5)=true
     ·rw[if_pos L,sA,sA,sA];have:cPoint.size=1:=rfl;have:cParens.size=2:=rfl;omega
     ·rw[if_neg L];by_cases q:(x.kind==6)=true
      ·rw[if_pos q,if_pos (zbU (.inl q)),sA,sA];have:=zgS (zY (W.getD x.r.toNat zj).kind) (prX W x.r.toNat);have:tPlus.size=3:=rfl;omega
      ·rw[if_neg q];by_cases A:(x.kind==7)=true
       ·rw[if_pos A,if_pos (zbU (.inr (.inl A))),sA,sA];have:=zgS (zY (W.getD x.r.toNat zj).kind) (prX W x.r.toNat);have:tMinus.size=3:=rfl;omega
       ·rw[if_neg A];by_cases w:(x.kind==8)=true
        ·rw[if_pos w,if_pos (zbU (.inr (.inr w))),sA,sA];have:=zgS (zY (W.getD x.l.toNat zj).kind) (prX W x.l.toNat);have:=zgS (zag (W.getD x.r.toNat zj).kind) (prX W x.r.toNat);have:tStar.size=3:=rfl;omega
        ·rw[if_neg w];show 0<=_;omega
def zay (ex:List Ex):Prop:=∀x∈ex,-9223372036854775808<=x.num/\x.num<=9223372036854775807
theorem zeB (h:c<W.length):W.getD c zj=W[c]:=by simp[List.getD,gE h]
theorem zpH: ∀q:List Sm,(∀s∈q,0<=s.expr/\s.expr<(b:Int))->(q.map fun s=>w s.expr.toNat).sum=sm b (fun j=>zaW q (j:Int)*w j):=by
 intro q
 induction q with
 |nil=>intro _;show 0=_;rw[<-zix b];exact zeA fun j _=>by simp[zaW]
 |cons s q A=>
  intro h;rw[map_cons,sum_cons,A fun x H=>h x (List.mem_cons_of_mem _ H)];have S:=h s List.mem_cons_self;rw[<-ziy w b s.expr S.1 S.2,<-ziw];refine zeA fun j _=>?_;simp only[zaW,map_cons,sum_cons];rw[add_mul]
theorem zpI (t:Tree C) (M:zay C.ex): ∀d k,k+d=C.ex.length->
  (C.st.map fun s=>wt C.ex s.expr.toNat).sum<=sm k (fun j=>(zaW C.st (j:Int)+za0 (C.ex.drop k) (j:Int))*wt C.ex j)+((C.ex.drop k).map zen).sum:=by
 intro d
 induction d with
 |zero=>
  intro k A;have:k=C.ex.length:=by omega
  subst this;rw[zpH _ _ _ t.stm];refine le_trans (Nat.le_of_eq ?_) (Nat.le_add_right _ _);refine zeA fun j _=>?_;rw[zpD (le_refl _),Nat.add_zero]
 |succ d H=>
  intro k A;have h:k<C.ex.length:=by omega
  refine le_trans (H (k+1) (by omega)) ?_;have K:zaW C.st (k:Int)+za0 (C.ex.drop (k+1)) (k:Int)=1:=by
   have:=t.once k h;rw[<-zpE t.ahead k h (k+1) 0 (by omega),drop_zero];omega
  rw[zem,K,Nat.one_mul,drop_eq_getElem_cons h,map_cons,sum_cons];have I:=zpG t.ahead k (by rw[zeB h];exact M _ (List.getElem_mem h));rw[zeB h] at I;have L:sm k (fun j=>(zaW C.st (j:Int)+za0 (C.ex.drop k) (j:Int))*wt C.ex j)=sm k (fun j=>(zaW C.st (j:Int)+za0 (C.ex.drop (k+1)) (j:Int))*wt C.ex j)+if zag C.ex[k].kind then wt C.ex C.ex[k].l.toNat+wt C.ex C.ex[k].r.toNat else 0:=by
   have e: ∀j:Nat,(zaW C.st (j:Int)+za0 (C.ex.drop k) (j:Int))*wt C.ex j=(zaW C.st (j:Int)+za0 (C.ex.drop (k+1)) (j:Int))*wt C.ex j+u1 C.ex[k] (j:Int)*wt C.ex j:=fun j=>by
    rw[zk1 h,<-add_mul];congr 1;omega
   rw[zeA fun j _=>e j,ziw];congr 1
   split
   ·next w=>
    have q:=t.ahead k _ (gE h) w;rw[<-ziy (wt C.ex) k _ q.1 q.2.1,<-ziy (wt C.ex) k _ q.2.2.1 q.2.2.2,<-ziw];refine zeA fun j _=>?_;rw[u1,if_pos w,add_mul]
   ·next w=>
    rw[<-zix k];refine zeA fun j _=>?_;rw[u1,if_neg w,Nat.zero_mul]
  have J:za0 (C.ex[k]::C.ex.drop (k+1))=za0 (C.ex.drop k):=by rw[<-drop_eq_getElem_cons h]
  rw[J,L];omega
theorem zpJ (t:Tree C) (h:zay C.ex):(C.st.map fun s=>wt C.ex s.expr.toNat).sum<=(C.ex.map zen).sum:=by
 have:=zpI t h C.ex.length 0 (by omega);rw[zpC,Nat.zero_add,drop_zero] at this;exact this
theorem ziz {w:World} {base n:Nat} {e:TypeId} {size:Nat} {v:Value} {xs:List Value} (h:w.ownsRow base e size v n xs): ∀k,v.ownBlock=some k->base<=k:=by
 intro k q;rcases h.2 with ⟨rfl,_⟩|⟨g,H,A,rfl,I,_⟩
 ·simp[Value.ownBlock] at q
 ·simp only[Value.ownBlock,sI0] at q;omega
theorem vI (a:Option Addr) (l c:Nat) (b:Option Addr) (m d:Nat):(Value.slice a l c = Value.slice b m d) = (a = b /\ l = m /\ c = d):=Value.slice.injEq a l c b m d
def tkL (t:Tk):List Value:=[.int .i64 t.kind,.string t.text,.int .i64 t.num,.int .i64 t.pos]
def OwnT (w:World) (base:Nat) (e:TypeId) (g n cap:Nat) (ts:List Tk):Prop:=w.ownsRow base e 4 (.slice (some ⟨g,0,none⟩) n cap) n (ts.flatMap tkL)/\n=ts.length
variable {w:World} {g:Nat} {W:TypeId} {C:List Tk}
theorem za1 {S n q:Nat} (h:OwnT w g W S n q C):S<w.heap.size/\g<=S/\n<=q:=by
 rcases h.1.2 with ⟨A,_⟩|⟨N,H,I,A,K,L,M,_⟩
 ·simp at A
 ·simp only[vI,sI0,Addr.mk.injEq,and_true,true_and] at A;obtain⟨rfl,rfl⟩:=A;exact⟨(aLt L),K,M⟩
theorem zcG {z:World} {S n A:Nat} (h:OwnT w g W S n A C) (N:Bw w z):OwnT z g W S n A C:=by
 have I:=(za1 h).1;refine⟨⟨h.1.1,?_⟩,h.2⟩;rcases h.1.2 with k|⟨U,L,H,K,q,O,M⟩
 ·exact .inl k
 ·simp only[vI,sI0,Addr.mk.injEq,and_true,true_and] at K;obtain⟨rfl,rfl⟩:=K;exact .inr ⟨S,A,H,rfl,q,(N.block S I).trans O,M⟩
theorem zi0 (w:World) (e:TypeId) (base:Nat) (h:base<=w.heap.size):OwnT (w.alloc (.cells #[] e)) base e w.heap.size 0 0 []:=
 ⟨World.ownsRow_lit w #[] 0 h (by unfold maxLen;omega) rfl,rfl⟩
theorem zpK {P:Program} (w:World) {L:Array Oper} {rest:List Oper} {o:Oper} {a:Act} {Q:Exit->Act->World->Prop} (N:o.guard=none) (s x:Operand) (t:TypeId) (ho:o.op= .call {callee:=.builtin .append,args:=#[s,x],argTypes:=#[t,t]}) (base:Nat) (e:TypeId) (i:TypeInfo) (z:Value) (ht:P.underlying t=some (.slice e)) (hi:P.info? e=some i) (hz:i.zero=some z) (I:i.size=4) (O:i.bytes=40) (U:z.cells.size=4) (g n K:Nat) (ts:List Tk) (hs:a.eval s= .slice (some ⟨g,0,none⟩) n K) (H:OwnT w base e g n K ts) (b:Tk) (gx:Nat) (X:gx=w.heap.size) (hx:a.eval x= .slice (some ⟨gx,0,none⟩) 1 1) (hn:n+1<=1000000) (J:base<=w.heap.size) (h: ∀M A w',OwnT w' base e M (n+1) A (ts++[b])->Below base w w'->wpList P L Q rest (a.put o.dst (.slice (some ⟨M,0,none⟩) (n+1) A)) w'):
  wpList P L Q (o::rest) a (w.alloc (.cells #[.int .i64 b.kind,.string b.text,.int .i64 b.num,.int .i64 b.pos] e)):=by
 subst X;refine wpList_append_own _ N s x t ho base e i z 4 40 ht hi hz I O U (by decide) _ n _ hs (H.1.alloc _) ⟨w.heap.size,0,none⟩ 1 1 (tkL b) hx rfl ?_ ?_ ?_ ?_ ?_ ?_
 ·intro j u q
  match j,q with
  |0,q=>simp[tkL] at q;subst q;simp[Addr.add]
  |1,q=>simp[tkL] at q;subst q;simp[Addr.add]
  |2,q=>simp[tkL] at q;subst q;simp[Addr.add]
  |3,q=>simp[tkL] at q;subst q;simp[Addr.add]
  |j+4,q=>simp[tkL] at q
 ·intro u Z;simp[tkL] at Z;rcases Z with rfl|rfl|rfl|rfl<;>rfl
 ·unfold maxLen;omega
 ·omega
 ·simp;omega
 ·intro v' w' Y h2 h3;have hb:Below base w w':=((Below.refl base w).alloc J _).grown h2 (by simp;omega) (ziz H.1);rcases Y.2 with ⟨hv,_⟩|⟨M,A,aa,rfl,V⟩
  ·have:=(h3.1 hv).1;simp at this
  ·refine h M A w' ⟨?_,by rw[List.length_append];have:=H.2;simp;omega⟩ hb;rw[List.flatMap_append]
   simpa using Y
open Nat (le_refl le_trans)
theorem oI {α:Type _} {a b:α} (h:some a = some b):a = b:=Option.some.inj h
def imL (x:Im):List Value:=[.string x.spec,.string x.first,.string x.loc]
def epL (x:Ep):List Value:=[.int .i64 x.kind,.string x.name,.string x.loc,.string x.spec]
def smL (x:Sm):List Value:=[.int .i64 x.kind,.string x.name,.int .i64 x.expr]
def exL (x:Ex):List Value:=[.int .i64 x.kind,.int .i64 x.num,.string x.name,.string x.field,.int .i64 x.l,.int .i64 x.r]
structure Rw where
 a:Option Addr
 cap:Nat
structure Sv where
 rq:Rw
 im:Rw
 ep:Rw
 st:Rw
 ex:Rw
 la:Rw
def Rw.blk (r:Rw):Option Nat:=(Value.slice r.a 0 r.cap).ownBlock
def Sv.has (S:Sv) (k:Nat):Prop:=S.rq.blk=some k∨S.im.blk=some k∨S.ep.blk=some k∨S.st.blk=some k∨S.ex.blk=some k∨S.la.blk=some k
def OwnR (w:World) (base:Nat) (e:TypeId) (size:Nat) (r:Rw) (n:Nat) (xs:List Value):Prop:=w.ownsRow base e size (.slice r.a n r.cap) n xs
theorem zbI (r:Rw) (n:Nat):(Value.slice r.a n r.cap).ownBlock=r.blk:=by
 unfold Rw.blk Value.ownBlock;cases r.a<;>rfl
structure Own (w:World) (base:Nat) (S:Sv) (q:PS):Prop where
 rq:OwnR w base 9 1 S.rq q.rq.length (q.rq.map .string)
 im:OwnR w base 101 3 S.im q.im.length (q.im.flatMap imL)
 ep:OwnR w base 103 4 S.ep q.ep.length (q.ep.flatMap epL)
 st:OwnR w base 108 3 S.st q.st.length (q.st.flatMap smL)
 ex:OwnR w base 106 6 S.ex q.ex.length (q.ex.flatMap exL)
 la:OwnR w base 103 4 S.la q.la.length (q.la.flatMap epL)
 apart: ∀k,S.ep.blk=some k->S.la.blk≠some k
variable {w W V:World} {g b c:Nat} {S:TypeId} {q:List Value} {z:Rw} {T:Sv} {p:PS} {D:Cx} {s:List Tk}
theorem OwnR.typed {r:Rw} (h:OwnR w g S b r c q) {k:Nat} (A:r.blk=some k):g<=k/\k<w.heap.size/\∃m,w.heap[k]? =some (.cells m S (0,0)):=by
 rcases h.2 with ⟨H,_⟩|⟨d,J,m,H,K,I,_⟩
 ·rw[<-zbI r c,H] at A;simp[Value.ownBlock] at A
 ·rw[<-zbI r c,H] at A;simp only[Value.ownBlock,sI0] at A;subst A;exact⟨K,(aLt I),m,I⟩
theorem OwnR.ne {N Z n2:Nat} {H:TypeId} {I:Rw} {X:List Value} (O:OwnR w g S c z Z q) (L:OwnR w b H N I n2 X) (Y:S≠H) {k:Nat} (M:z.blk=some k):I.blk≠some k:=by
 intro h;obtain⟨_,_,c1,U⟩:=O.typed M;obtain⟨_,_,c2,d⟩:=L.typed h;rw[U] at d;simp only[sI0,Obj.cells.injEq] at d;exact Y d.2.1
theorem OwnR.keep (h:OwnR w g S b z c q) (I: ∀k,z.blk=some k->W.heap[k]? =w.heap[k]?):OwnR W g S b z c q:=by
 refine⟨h.1,?_⟩;rcases h.2 with m|⟨d,H,A,m,J,K,rest⟩
 ·exact .inl m
 ·refine .inr ⟨d,H,A,m,J,?_,rest⟩;rw[I d (by rw[<-zbI z c,m];rfl)];exact K
theorem Own.keep (h:Own w g T p) (A: ∀k,T.has k->W.heap[k]? =w.heap[k]?):Own W g T p:=
 ⟨h.rq.keep fun k e=>A k (.inl e),h.im.keep fun k e=>A k (.inr (.inl e)),h.ep.keep fun k e=>A k (.inr (.inr (.inl e))),h.st.keep fun k e=>A k (.inr (.inr (.inr (.inl e)))),
  h.ex.keep fun k e=>A k (.inr (.inr (.inr (.inr (.inl e))))),h.la.keep fun k e=>A k (.inr (.inr (.inr (.inr (.inr e))))),h.apart⟩
theorem Own.has (h:Own w g T p) (A:T.has b):g<=b/\b<w.heap.size:=by
 rcases A with e|e|e|e|e|e
 ·exact⟨(h.rq.typed e).1,(h.rq.typed e).2.1⟩
 ·exact⟨(h.im.typed e).1,(h.im.typed e).2.1⟩
 ·exact⟨(h.ep.typed e).1,(h.ep.typed e).2.1⟩
 ·exact⟨(h.st.typed e).1,(h.st.typed e).2.1⟩
 ·exact⟨(h.ex.typed e).1,(h.ex.typed e).2.1⟩
 ·exact⟨(h.la.typed e).1,(h.la.typed e).2.1⟩
theorem Own.later (h:Own w g T p) (A:Bw w W):Own W g T p:=h.keep fun k e=>A.block k (h.has e).2
theorem Own.other {base:Nat} (h:Own w base T p) {I:Array Value} {e:TypeId} {z:Nat×Nat} (H:w.heap[b]? =some (.cells I e z)) (M:e≠9) (K:e≠101) (J:e≠103) (L:e≠108) (N:e≠106): ¬T.has b:=by
 rintro (g|g|g|g|g|g)
 ·obtain⟨_,_,c,A⟩:=h.rq.typed g;rw[H] at A;simp only[sI0,Obj.cells.injEq] at A;exact M A.2.1
 ·obtain⟨_,_,c,A⟩:=h.im.typed g;rw[H] at A;simp only[sI0,Obj.cells.injEq] at A;exact K A.2.1
 ·obtain⟨_,_,c,A⟩:=h.ep.typed g;rw[H] at A;simp only[sI0,Obj.cells.injEq] at A;exact J A.2.1
 ·obtain⟨_,_,c,A⟩:=h.st.typed g;rw[H] at A;simp only[sI0,Obj.cells.injEq] at A;exact L A.2.1
 ·obtain⟨_,_,c,A⟩:=h.ex.typed g;rw[H] at A;simp only[sI0,Obj.cells.injEq] at A;exact N A.2.1
 ·obtain⟨_,_,c,A⟩:=h.la.typed g;rw[H] at A;simp only[sI0,Obj.cells.injEq] at A;exact J A.2.1
structure Stp (S:Sv) (w:World) (S':Sv) (w':World):Prop where
 os:w'.os=w.os
 tape:w'.tape=w.tape
 output:w'.output=w.output
 size:w.heap.size<=w'.heap.size
 block: ∀k,k<w.heap.size->¬S.has k->w'.heap[k]? =w.heap[k]?
 sub: ∀k,S'.has k->S.has k∨w.heap.size<=k
theorem Stp.refl (S:Sv) (w:World):Stp S w S w:=⟨rfl,rfl,rfl,le_refl _,fun _ _ _=>rfl,fun _ h=>.inl h⟩
theorem Stp.trans {I A:Sv} (h:Stp T w I W) (k:Stp I W A V):Stp T w A V:=
 ⟨k.os.trans h.os,k.tape.trans h.tape,k.output.trans h.output,le_trans h.size k.size,
  fun i q K=>(k.block i (Nat.lt_of_lt_of_le q h.size) fun g=>(h.sub i g).elim K fun L=>by omega).trans (h.block i q K),
  fun i q=>(k.sub i q).elim (h.sub i) fun g=>.inr (le_trans h.size g)⟩
theorem Stp.below (h:Bw w W):Stp T w T W:=⟨h.os,h.tape,h.output,h.size,fun k q _=>h.block k q,fun _ g=>.inl g⟩
theorem Stp.under {A:Sv} (h:Stp T w A W) (J:g<=w.heap.size) (H:Own w g T p):Below g w W:=
 ⟨h.os,h.tape,h.output,h.size,fun k I=>h.block k (by omega) fun d=>by have:=(H.has d).1;omega⟩
theorem Stp.grown {q:Sv} {row:Option Nat} (h:w.grownBy W row) (H: ∀k,row=some k->T.has k) (I: ∀k,q.has k->T.has k∨w.heap.size<=k):Stp T w q W:=
 ⟨h.os,h.tape,h.output,h.size,fun k A J=>h.block k A fun e=>J (H k e.symm),I⟩
structure Inv (C:Cx) (q:PS):Prop where
 pos:q.pos<=C.ts.length
 rq:q.rq.length<=40
 im:q.im.length<=40
 ep:q.ep.length+q.la.length<=40
 st:q.st.length<=80
 ex:q.ex.length<=300
structure Mem (C:Cx) (gt cap base:Nat) (S:Sv) (q:PS) (w:World):Prop where
 own:Own w base S q
 inv:Inv C q
 tok:OwnT w base 157 gt C.ts.length cap C.ts
 few:C.ts.length<=4000
 base:base<=w.heap.size
theorem Mem.later (h:Mem D g b c T p w) (H:Bw w W):Mem D g b c T p W:=
 ⟨h.own.later H,h.inv,zcG h.tok H,h.few,le_trans h.base H.size⟩
theorem Mem.alloc {base:Nat} (h:Mem D g b base T p w) (o:Obj):Mem D g b base T p (w.alloc o):=h.later (bA0)
theorem Own.to {q':PS} (h:Own w g T p) (J:q'.rq=p.rq) (H:q'.im=p.im) (L:q'.ep=p.ep) (I:q'.st=p.st) (K:q'.ex=p.ex) (A:q'.la=p.la):Own w g T q':=
 ⟨by rw[J];exact h.rq,by rw[H];exact h.im,by rw[L];exact h.ep,by rw[I];exact h.st,by rw[K];exact h.ex,by rw[A];exact h.la,h.apart⟩
theorem Mem.adv {C:Cx} {H A base:Nat} {S:Sv} {q:PS} {w:World} (h:Mem C H A base S q w) (I:q.pos<C.ts.length):Mem C H A base S (adv q) w:=
 ⟨h.own.to rfl rfl rfl rfl rfl rfl,⟨I,h.inv.rq,h.inv.im,h.inv.ep,h.inv.st,h.inv.ex⟩,h.tok,h.few,h.base⟩
theorem OwnR.alloc {base size:Nat} {e:TypeId} (h:OwnR w base e size z g q) (o:Obj):OwnR (w.alloc o) base e size z g q:=
 h.keep fun k d=>Below.heap_alloc w o k (h.typed d).2.1
theorem zgT {d:Nat} (h:OwnT w g S d b c s): ∃q,w.heap[d]? =some (.cells q S (0,0)):=by
 rcases h.1.2 with ⟨A,_⟩|⟨N,I,q,A,L,K,M,_⟩
 ·simp at A
 ·simp only[vI,sI0,Addr.mk.injEq,and_true,true_and] at A;obtain⟨rfl,rfl⟩:=A;exact⟨q,K⟩
theorem zbV {d:Nat} (h:OwnT w g S d b c s) (L:W.heap[d]? =w.heap[d]?):OwnT W g S d b c s:=by
 refine⟨⟨h.1.1,?_⟩,h.2⟩;rcases h.1.2 with k|⟨O,K,H,J,q,N,M⟩
 ·exact .inl k
 ·simp only[vI,sI0,Addr.mk.injEq,and_true,true_and] at J;obtain⟨rfl,rfl⟩:=J;exact .inr ⟨d,c,H,rfl,q,L.trans N,M⟩
theorem Mem.gt_free (h:Mem D g b c T p w): ¬T.has g:=by
 obtain⟨I,J⟩:=zgT h.tok;exact h.own.other J (by decide) (by decide) (by decide) (by decide) (by decide)
structure Off (lo hi:Nat) (w w':World):Prop where
 os:w'.os=w.os
 tape:w'.tape=w.tape
 output:w'.output=w.output
 size:w.heap.size<=w'.heap.size
 block: ∀k,k<lo∨hi<=k/\k<w.heap.size->w'.heap[k]? =w.heap[k]?
theorem Off.refl (h q:Nat) (w:World):Off h q w w:=⟨rfl,rfl,rfl,le_refl _,fun _ _=>rfl⟩
theorem Off.set {A:Nat} (h:Off g A w W) {b:Nat} (J:g<=b) (I:b<A) (i:Nat) (u:Value):Off g A w (W.setCell ⟨b,i,none⟩ u):=
 ⟨h.os,h.tape,h.output,by show _<=(W.heap.modify _ _).size;simp;exact h.size,fun k H=>(Below.heap_setCell W ⟨b,i,none⟩ u k (by show k≠b;omega)).trans (h.block k H)⟩
theorem Off.below (h:Off g b w W) (q:Bw W V) (L:g<=w.heap.size):Off g b w V:=
 ⟨q.os.trans h.os,q.tape.trans h.tape,q.output.trans h.output,le_trans h.size q.size,fun k K=>(q.block k (by have:=h.size;omega)).trans (h.block k K)⟩
theorem Off.set12 {K:Nat} {d:World} (h:Off g K w d) {b:Nat} (A:g<=b) (q:b<K) (L V M X N x5 U Z O Y H J:Value):
  Off g K w ((((((((((((d.setCell ⟨b,0,none⟩ L).setCell ⟨b,1,none⟩ V).setCell ⟨b,2,none⟩ M).setCell ⟨b,3,none⟩ X).setCell ⟨b,4,none⟩ N).setCell ⟨b,5,none⟩ x5).setCell ⟨b,6,none⟩ U).setCell ⟨b,7,none⟩ Z).setCell ⟨b,8,none⟩ O).setCell ⟨b,9,none⟩ Y).setCell ⟨b,10,none⟩ H).setCell ⟨b,11,none⟩ J):=
 (((((((((((h.set A q _ _).set A q _ _).set A q _ _).set A q _ _).set A q _ _).set A q _ _).set A q _ _).set A q _ _).set A q _ _).set A q _ _).set A q _ _).set A q _ _
theorem zbm {P:Program} (W:World) {M:Array Oper} {rest:List Oper} {o:Oper} {a:Act} {Q:Exit->Act->World->Prop} (O:o.guard=none) (s x:Operand) (t:TypeId) (ho:o.op= .call {callee:=.builtin .append,args:=#[s,x],argTypes:=#[t,t]}) (base:Nat) (e:TypeId) (i:TypeInfo) (z:Value) (size q:Nat) (ht:P.underlying t=some (.slice e)) (hi:P.info? e=some i) (hz:i.zero=some z) (H:i.size=size) (V:i.bytes=q) (X:z.cells.size=size) (U:0<size) (L:q<=100) (r:Rw) (n:Nat) (xs:List Value) (hs:a.eval s= .slice r.a n r.cap) (J:OwnR W base e size r n xs) (N:Nat) (w:List Value) (hx:a.eval x= .slice (some ⟨N,0,none⟩) 1 1) (hg:W.heap[N]? =some (.cells w.toArray e (0,0))) (hl:w.length=size) (h1: ∀u∈w,u.oneCell'=true) (hn:n+1<=4000000) (I:base<=W.heap.size) (h: ∀K w',OwnR w' base e size K (n+1) (xs++w)->W.grownBy w' r.blk->(K.blk=r.blk∨K.blk=some W.heap.size)->wpList P M Q rest (a.put o.dst (.slice K.a (n+1) K.cap)) w'):
  wpList P M Q (o::rest) a W:=by
 refine wpList_append_own_at _ O s x t ho base e i z size q ht hi hz H V X U _ n _ hs J ⟨N,0,none⟩ 1 1 w hx (by omega) ?_ h1 ?_ ?_ I ?_
 ·intro j u hj;have:(⟨N,0,none⟩:Addr).add j=⟨N,j,none⟩:=by simp[Addr.add];exact fun h=>h.symm
  rw[this];simp[World.cell?,hg,hj]
 ·unfold maxLen;omega
 ·have:(n+1)*q<=4000000*100:=Nat.mul_le_mul hn L;omega
 ·intro v' w' Z k2 k3 k4;rcases Z.2 with ⟨hv,ab⟩|⟨g',A,aa,rfl,Y⟩
  ·omega
  ·refine h ⟨some ⟨g',0,none⟩,A⟩ w' Z ?_ ?_
   ·rw[<-zbI r n];exact k2
   ·rw[<-zbI r n,<-zbI ⟨some ⟨g',0,none⟩,A⟩ (n+1)];exact k4
theorem Mem.grow_rq {L:World} (A:Mem D g b c T p w) (M:Bw w W) (d:W.grownBy V T.rq.blk) {x:BA0} (hr:OwnR V c 9 1 z (p.rq.length+1) (p.rq.map .string++[.string x])) (X:z.blk=T.rq.blk∨z.blk=some W.heap.size) (J:Off w.heap.size W.heap.size V L) (hn:p.rq.length<40):
  Mem D g b c {T with rq:=z} {p with rq:=p.rq++[x]} L/\Stp T w {T with rq:=z} L:=by
 have ab:=M.size;have N:=d.size;have H: ∀k,k<w.heap.size->T.rq.blk≠some k->L.heap[k]? =w.heap[k]?:=fun k I aa=>
  (J.block k (.inl I)).trans ((d.block k (by omega) fun e=>aa e.symm).trans (M.block k I))
 have Y:OwnR L c 9 1 z (p.rq.length+1) (p.rq.map .string++[.string x]):=hr.keep fun k I=>J.block k (by
  rcases X with e|e
  ·rw[e] at I;exact .inl (A.own.rq.typed I).2.1
  ·rw[e] at I;obtain rfl:=oI I
   exact .inr ⟨le_refl _,(hr.typed e).2.1⟩)
 have U:(p.rq++[x]).length=p.rq.length+1:=by simp
 refine⟨⟨⟨by show OwnR L c 9 1 z (p.rq++[x]).length _;rw[U];simpa using Y,A.own.im.keep fun k I=>H k (A.own.im.typed I).2.1 (A.own.im.ne A.own.rq (by decide) I),A.own.ep.keep fun k I=>H k (A.own.ep.typed I).2.1 (A.own.ep.ne A.own.rq (by decide) I),A.own.st.keep fun k I=>H k (A.own.st.typed I).2.1 (A.own.st.ne A.own.rq (by decide) I),A.own.ex.keep fun k I=>H k (A.own.ex.typed I).2.1 (A.own.ex.ne A.own.rq (by decide) I),A.own.la.keep fun k I=>H k (A.own.la.typed I).2.1 (A.own.la.ne A.own.rq (by decide) I),A.own.apart⟩,⟨A.inv.pos,by simp;omega,A.inv.im,A.inv.ep,A.inv.st,A.inv.ex⟩,zbV A.tok (H g (za1 A.tok).1 fun e=>A.gt_free (.inl e)),A.few,le_trans A.base (by have:=J.size;omega)⟩,?_⟩;refine⟨J.os.trans (d.os.trans M.os),J.tape.trans (d.tape.trans M.tape),J.output.trans (d.output.trans M.output),le_trans (le_trans ab N) J.size,fun k I hn=>H k I fun e=>hn (.inl e),fun k I=>?_⟩;rcases I with h|h|h|h|h|h
 ·exact X.elim (fun e=>.inl (.inl (e.symm.trans h))) fun e=>.inr (by have:W.heap.size=k:=oI (e.symm.trans h);omega)
 ·exact .inl (.inr (.inl h))
 ·exact .inl (.inr (.inr (.inl h)))
 ·exact .inl (.inr (.inr (.inr (.inl h))))
 ·exact .inl (.inr (.inr (.inr (.inr (.inl h)))))
 ·exact .inl (.inr (.inr (.inr (.inr (.inr h)))))
theorem Mem.grow_im {L:World} (A:Mem D g b c T p w) (M:Bw w W) (d:W.grownBy V T.im.blk) {x:Im} (hr:OwnR V c 101 3 z (p.im.length+1) (p.im.flatMap imL++imL x)) (X:z.blk=T.im.blk∨z.blk=some W.heap.size) (J:Off w.heap.size W.heap.size V L) (hn:p.im.length<40):
  Mem D g b c {T with im:=z} {p with im:=p.im++[x]} L/\Stp T w {T with im:=z} L:=by
 have ab:=M.size;have N:=d.size;have H: ∀k,k<w.heap.size->T.im.blk≠some k->L.heap[k]? =w.heap[k]?:=fun k I aa=>
  (J.block k (.inl I)).trans ((d.block k (by omega) fun e=>aa e.symm).trans (M.block k I))
 have Y:OwnR L c 101 3 z (p.im.length+1) (p.im.flatMap imL++imL x):=hr.keep fun k I=>J.block k (by
  rcases X with e|e
  ·rw[e] at I;exact .inl (A.own.im.typed I).2.1
  ·rw[e] at I;obtain rfl:=oI I
   exact .inr ⟨le_refl _,(hr.typed e).2.1⟩)
 have U:(p.im++[x]).length=p.im.length+1:=by simp
 refine⟨⟨⟨A.own.rq.keep fun k I=>H k (A.own.rq.typed I).2.1 (A.own.rq.ne A.own.im (by decide) I),by show OwnR L c 101 3 z (p.im++[x]).length _;rw[U];simpa using Y,A.own.ep.keep fun k I=>H k (A.own.ep.typed I).2.1 (A.own.ep.ne A.own.im (by decide) I),A.own.st.keep fun k I=>H k (A.own.st.typed I).2.1 (A.own.st.ne A.own.im (by decide) I),A.own.ex.keep fun k I=>H k (A.own.ex.typed I).2.1 (A.own.ex.ne A.own.im (by decide) I),A.own.la.keep fun k I=>H k (A.own.la.typed I).2.1 (A.own.la.ne A.own.im (by decide) I),A.own.apart⟩,⟨A.inv.pos,A.inv.rq,by simp;omega,A.inv.ep,A.inv.st,A.inv.ex⟩,zbV A.tok (H g (za1 A.tok).1 fun e=>A.gt_free (.inr (.inl e))),A.few,le_trans A.base (by have:=J.size;omega)⟩,?_⟩;refine⟨J.os.trans (d.os.trans M.os),J.tape.trans (d.tape.trans M.tape),J.output.trans (d.output.trans M.output),le_trans (le_trans ab N) J.size,fun k I hn=>H k I fun e=>hn (.inr (.inl e)),fun k I=>?_⟩;rcases I with h|h|h|h|h|h
 ·exact .inl (.inl h)
 ·exact X.elim (fun e=>.inl (.inr (.inl (e.symm.trans h)))) fun e=>.inr (by have:W.heap.size=k:=oI (e.symm.trans h);omega)
 ·exact .inl (.inr (.inr (.inl h)))
 ·exact .inl (.inr (.inr (.inr (.inl h))))
 ·exact .inl (.inr (.inr (.inr (.inr (.inl h)))))
 ·exact .inl (.inr (.inr (.inr (.inr (.inr h)))))
theorem Mem.grow_ep {M:World} (A:Mem D g b c T p w) (O:Bw w W) (N:W.grownBy V T.ep.blk) {x:Ep} (hr:OwnR V c 103 4 z (p.ep.length+1) (p.ep.flatMap epL++epL x)) (L:z.blk=T.ep.blk∨z.blk=some W.heap.size) (J:Off w.heap.size W.heap.size V M) (hn:p.ep.length+p.la.length<40):
  Mem D g b c {T with ep:=z} {p with ep:=p.ep++[x]} M/\Stp T w {T with ep:=z} M:=by
 have aa:=O.size;have Y:=N.size;have H: ∀k,k<w.heap.size->T.ep.blk≠some k->M.heap[k]? =w.heap[k]?:=fun k I Z=>
  (J.block k (.inl I)).trans ((N.block k (by omega) fun e=>Z e.symm).trans (O.block k I))
 have X:OwnR M c 103 4 z (p.ep.length+1) (p.ep.flatMap epL++epL x):=hr.keep fun k I=>J.block k (by
  rcases L with e|e
  ·rw[e] at I;exact .inl (A.own.ep.typed I).2.1
  ·rw[e] at I;obtain rfl:=oI I
   exact .inr ⟨le_refl _,(hr.typed e).2.1⟩)
 have d:(p.ep++[x]).length=p.ep.length+1:=by simp
 refine⟨⟨⟨A.own.rq.keep fun k I=>H k (A.own.rq.typed I).2.1 (A.own.rq.ne A.own.ep (by decide) I),A.own.im.keep fun k I=>H k (A.own.im.typed I).2.1 (A.own.im.ne A.own.ep (by decide) I),by show OwnR M c 103 4 z (p.ep++[x]).length _;rw[d];simpa using X,A.own.st.keep fun k I=>H k (A.own.st.typed I).2.1 (A.own.st.ne A.own.ep (by decide) I),A.own.ex.keep fun k I=>H k (A.own.ex.typed I).2.1 (A.own.ex.ne A.own.ep (by decide) I),A.own.la.keep fun k I=>H k (A.own.la.typed I).2.1 (fun e=>A.own.apart k e I),fun k I hl=>L.elim (fun e=>A.own.apart k (by rw[<-e];exact I) hl) fun e=>by have h1:=(A.own.la.typed hl).2.1;have h2:W.heap.size=k:=oI (e.symm.trans I);omega⟩,⟨A.inv.pos,A.inv.rq,A.inv.im,by have:=A.inv.ep;simp;omega,A.inv.st,A.inv.ex⟩,zbV A.tok (H g (za1 A.tok).1 fun e=>A.gt_free (.inr (.inr (.inl e)))),A.few,le_trans A.base (by have:=J.size;omega)⟩,?_⟩;refine⟨J.os.trans (N.os.trans O.os),J.tape.trans (N.tape.trans O.tape),J.output.trans (N.output.trans O.output),le_trans (le_trans aa Y) J.size,fun k I hn=>H k I fun e=>hn (.inr (.inr (.inl e))),fun k I=>?_⟩;rcases I with h|h|h|h|h|h
 ·exact .inl (.inl h)
 ·exact .inl (.inr (.inl h))
 ·exact L.elim (fun e=>.inl (.inr (.inr (.inl (e.symm.trans h))))) fun e=>.inr (by have:W.heap.size=k:=oI (e.symm.trans h);omega)
 ·exact .inl (.inr (.inr (.inr (.inl h))))
 ·exact .inl (.inr (.inr (.inr (.inr (.inl h)))))
 ·exact .inl (.inr (.inr (.inr (.inr (.inr h)))))
theorem Mem.grow_st {L:World} (A:Mem D g b c T p w) (M:Bw w W) (d:W.grownBy V T.st.blk) {x:Sm} (hr:OwnR V c 108 3 z (p.st.length+1) (p.st.flatMap smL++smL x)) (X:z.blk=T.st.blk∨z.blk=some W.heap.size) (J:Off w.heap.size W.heap.size V L) (hn:p.st.length<80):
  Mem D g b c {T with st:=z} {p with st:=p.st++[x]} L/\Stp T w {T with st:=z} L:=by
 have ab:=M.size;have N:=d.size;have H: ∀k,k<w.heap.size->T.st.blk≠some k->L.heap[k]? =w.heap[k]?:=fun k I aa=>
  (J.block k (.inl I)).trans ((d.block k (by omega) fun e=>aa e.symm).trans (M.block k I))
 have Y:OwnR L c 108 3 z (p.st.length+1) (p.st.flatMap smL++smL x):=hr.keep fun k I=>J.block k (by
  rcases X with e|e
  ·rw[e] at I;exact .inl (A.own.st.typed I).2.1
  ·rw[e] at I;obtain rfl:=oI I
   exact .inr ⟨le_refl _,(hr.typed e).2.1⟩)
 have U:(p.st++[x]).length=p.st.length+1:=by simp
 refine⟨⟨⟨A.own.rq.keep fun k I=>H k (A.own.rq.typed I).2.1 (A.own.rq.ne A.own.st (by decide) I),A.own.im.keep fun k I=>H k (A.own.im.typed I).2.1 (A.own.im.ne A.own.st (by decide) I),A.own.ep.keep fun k I=>H k (A.own.ep.typed I).2.1 (A.own.ep.ne A.own.st (by decide) I),by show OwnR L c 108 3 z (p.st++[x]).length _;rw[U];simpa using Y,A.own.ex.keep fun k I=>H k (A.own.ex.typed I).2.1 (A.own.ex.ne A.own.st (by decide) I),A.own.la.keep fun k I=>H k (A.own.la.typed I).2.1 (A.own.la.ne A.own.st (by decide) I),A.own.apart⟩,⟨A.inv.pos,A.inv.rq,A.inv.im,A.inv.ep,by simp;omega,A.inv.ex⟩,zbV A.tok (H g (za1 A.tok).1 fun e=>A.gt_free (.inr (.inr (.inr (.inl e))))),A.few,le_trans A.base (by have:=J.size;omega)⟩,?_⟩;refine⟨J.os.trans (d.os.trans M.os),J.tape.trans (d.tape.trans M.tape),J.output.trans (d.output.trans M.output),le_trans (le_trans ab N) J.size,fun k I hn=>H k I fun e=>hn (.inr (.inr (.inr (.inl e)))),fun k I=>?_⟩;rcases I with h|h|h|h|h|h
 ·exact .inl (.inl h)
 ·exact .inl (.inr (.inl h))
 ·exact .inl (.inr (.inr (.inl h)))
 ·exact X.elim (fun e=>.inl (.inr (.inr (.inr (.inl (e.symm.trans h)))))) fun e=>.inr (by have:W.heap.size=k:=oI (e.symm.trans h);omega)
 ·exact .inl (.inr (.inr (.inr (.inr (.inl h)))))
 ·exact .inl (.inr (.inr (.inr (.inr (.inr h)))))
theorem Mem.grow_ex {L:World} (A:Mem D g b c T p w) (M:Bw w W) (d:W.grownBy V T.ex.blk) {x:Ex} (hr:OwnR V c 106 6 z (p.ex.length+1) (p.ex.flatMap exL++exL x)) (X:z.blk=T.ex.blk∨z.blk=some W.heap.size) (J:Off w.heap.size W.heap.size V L) (hn:p.ex.length<300):
  Mem D g b c {T with ex:=z} {p with ex:=p.ex++[x]} L/\Stp T w {T with ex:=z} L:=by
 have ab:=M.size;have N:=d.size;have H: ∀k,k<w.heap.size->T.ex.blk≠some k->L.heap[k]? =w.heap[k]?:=fun k I aa=>
  (J.block k (.inl I)).trans ((d.block k (by omega) fun e=>aa e.symm).trans (M.block k I))
 have Y:OwnR L c 106 6 z (p.ex.length+1) (p.ex.flatMap exL++exL x):=hr.keep fun k I=>J.block k (by
  rcases X with e|e
  ·rw[e] at I;exact .inl (A.own.ex.typed I).2.1
  ·rw[e] at I;obtain rfl:=oI I
   exact .inr ⟨le_refl _,(hr.typed e).2.1⟩)
 have U:(p.ex++[x]).length=p.ex.length+1:=by simp
 refine⟨⟨⟨A.own.rq.keep fun k I=>H k (A.own.rq.typed I).2.1 (A.own.rq.ne A.own.ex (by decide) I),A.own.im.keep fun k I=>H k (A.own.im.typed I).2.1 (A.own.im.ne A.own.ex (by decide) I),A.own.ep.keep fun k I=>H k (A.own.ep.typed I).2.1 (A.own.ep.ne A.own.ex (by decide) I),A.own.st.keep fun k I=>H k (A.own.st.typed I).2.1 (A.own.st.ne A.own.ex (by decide) I),by show OwnR L c 106 6 z (p.ex++[x]).length _;rw[U];simpa using Y,A.own.la.keep fun k I=>H k (A.own.la.typed I).2.1 (A.own.la.ne A.own.ex (by decide) I),A.own.apart⟩,⟨A.inv.pos,A.inv.rq,A.inv.im,A.inv.ep,A.inv.st,by simp;omega⟩,zbV A.tok (H g (za1 A.tok).1 fun e=>A.gt_free (.inr (.inr (.inr (.inr (.inl e)))))),A.few,le_trans A.base (by have:=J.size;omega)⟩,?_⟩;refine⟨J.os.trans (d.os.trans M.os),J.tape.trans (d.tape.trans M.tape),J.output.trans (d.output.trans M.output),le_trans (le_trans ab N) J.size,fun k I hn=>H k I fun e=>hn (.inr (.inr (.inr (.inr (.inl e))))),fun k I=>?_⟩;rcases I with h|h|h|h|h|h
 ·exact .inl (.inl h)
 ·exact .inl (.inr (.inl h))
 ·exact .inl (.inr (.inr (.inl h)))
 ·exact .inl (.inr (.inr (.inr (.inl h))))
 ·exact X.elim (fun e=>.inl (.inr (.inr (.inr (.inr (.inl (e.symm.trans h))))))) fun e=>.inr (by have:W.heap.size=k:=oI (e.symm.trans h);omega)
 ·exact .inl (.inr (.inr (.inr (.inr (.inr h)))))
theorem Mem.grow_la {M:World} (A:Mem D g b c T p w) (O:Bw w W) (N:W.grownBy V T.la.blk) {x:Ep} (hr:OwnR V c 103 4 z (p.la.length+1) (p.la.flatMap epL++epL x)) (L:z.blk=T.la.blk∨z.blk=some W.heap.size) (J:Off w.heap.size W.heap.size V M) (hn:p.ep.length+p.la.length<40):
  Mem D g b c {T with la:=z} {p with la:=p.la++[x]} M/\Stp T w {T with la:=z} M:=by
 have aa:=O.size;have Y:=N.size;have H: ∀k,k<w.heap.size->T.la.blk≠some k->M.heap[k]? =w.heap[k]?:=fun k I Z=>
  (J.block k (.inl I)).trans ((N.block k (by omega) fun e=>Z e.symm).trans (O.block k I))
 have X:OwnR M c 103 4 z (p.la.length+1) (p.la.flatMap epL++epL x):=hr.keep fun k I=>J.block k (by
  rcases L with e|e
  ·rw[e] at I;exact .inl (A.own.la.typed I).2.1
  ·rw[e] at I;obtain rfl:=oI I
   exact .inr ⟨le_refl _,(hr.typed e).2.1⟩)
 have d:(p.la++[x]).length=p.la.length+1:=by simp
 refine⟨⟨⟨A.own.rq.keep fun k I=>H k (A.own.rq.typed I).2.1 (A.own.rq.ne A.own.la (by decide) I),A.own.im.keep fun k I=>H k (A.own.im.typed I).2.1 (A.own.im.ne A.own.la (by decide) I),A.own.ep.keep fun k I=>H k (A.own.ep.typed I).2.1 (fun e=>A.own.apart k I e),A.own.st.keep fun k I=>H k (A.own.st.typed I).2.1 (A.own.st.ne A.own.la (by decide) I),A.own.ex.keep fun k I=>H k (A.own.ex.typed I).2.1 (A.own.ex.ne A.own.la (by decide) I),by show OwnR M c 103 4 z (p.la++[x]).length _;rw[d];simpa using X,fun k I hl=>L.elim (fun e=>A.own.apart k I (by rw[<-e];exact hl)) fun e=>by have h1:=(A.own.ep.typed I).2.1;have h2:W.heap.size=k:=oI (e.symm.trans hl);omega⟩,⟨A.inv.pos,A.inv.rq,A.inv.im,by have:=A.inv.ep;simp;omega,A.inv.st,A.inv.ex⟩,zbV A.tok (H g (za1 A.tok).1 fun e=>A.gt_free (.inr (.inr (.inr (.inr (.inr e)))))),A.few,le_trans A.base (by have:=J.size;omega)⟩,?_⟩;refine⟨J.os.trans (N.os.trans O.os),J.tape.trans (N.tape.trans O.tape),J.output.trans (N.output.trans O.output),le_trans (le_trans aa Y) J.size,fun k I hn=>H k I fun e=>hn (.inr (.inr (.inr (.inr (.inr e))))),fun k I=>?_⟩;rcases I with h|h|h|h|h|h
 ·exact .inl (.inl h)
 ·exact .inl (.inr (.inl h))
 ·exact .inl (.inr (.inr (.inl h)))
 ·exact .inl (.inr (.inr (.inr (.inl h))))
 ·exact .inl (.inr (.inr (.inr (.inr (.inl h)))))
 ·exact L.elim (fun e=>.inl (.inr (.inr (.inr (.inr (.inr (e.symm.trans h))))))) fun e=>.inr (by have:W.heap.size=k:=oI (e.symm.trans h);omega)
abbrev PRN:=Except Nat (PS×BA0)
def zbc (y:PRN):PR:=bd y fun a=>.ok a.1
def withN (y:PRN) (F:PR->BA0->PR):PRN:=bd y fun a=>bd (F (.ok a.1) a.2) fun q=>.ok (q,a.2)
def zdh (C:Cx) (q:PS):PRN:=withN (bd (zd C 1 zN q) (zq C false)) fun x n=>bd (bd (bd (bd x (zd C 4 cEq)) (pE C .sum 0)) (zd C 4 cSemi)) (zae C 1 n)
def fnP (C:Cx) (q:PS):PRN:=
 withN (bd (zd C 1 zab q) (zq C false)) fun x n=>bd (bd (bd (bd (bd (bd (bd (bd x (zd C 4 zu)) (zd C 4 zaF)) (zd C 4 zU)) (zd C 1 zfk)) (pE C .sum 0)) (zd C 4 cSemi)) (zd C 4 zbE)) (zae C 2 n)
def asP (C:Cx) (exp:Bool) (a:PS×BA0):PRN:=
 if isT C a.1.pos 1 sAs then zq C exp (adv a.1)
 else if (a.2.toList==[100,101,102,97,117,108,116])&& !exp then .error (zz C a.1.pos) else .ok a
abbrev PRL:=Except Nat (PS×List Ep)
def zdT (C:Cx) (exp:Bool):Nat->PS->List Ep->PRL
 |0,_,_=>.error 0
 |f+1,q,acc=>bd (zq C true q) fun a=>bd (asP C exp a) fun b=>
  if isT C b.1.pos 4 zbS then zdT C exp f (adv b.1) (acc++[⟨0,b.2,a.2,sNone⟩]) else bd (zd C 4 zbE b.1) fun q'=>.ok (q',acc++[⟨0,b.2,a.2,sNone⟩])
def zaC (C:Cx) (exp:Bool) (q:PS) (acc:List Ep):PRL:=zdT C exp (C.ts.length-q.pos+1) q acc
def zd2 (C:Cx) (exp:Bool) (q:PS):PRL:=bd (zd C 4 zU q) fun q'=>zaC C exp q' []
def zaN (l:List Ep):Bool:=l.any fun x=>x.loc.toList==[100,101,102,97,117,108,116]
variable (g:Nat) {C:Cx} {w:Bool} {z:Int} {s:BA0} {q p:PS} {W:PR}
theorem zfZ {a b:PS×BA0} (h:asP C w a= .ok b):a.1.pos<=b.1.pos:=by
 unfold asP at h
 split at h
 ·obtain⟨rfl,_⟩:=zbF h;show a.1.pos<=a.1.pos+1+1;omega
 ·split at h
  ·cases h
  ·cases h;exact Nat.le_refl _
theorem zpL: ∀(S:Nat) (q:PS) (acc:List Ep),C.ts.length-q.pos<g->C.ts.length-q.pos<S->zdT C w g q acc=zdT C w S q acc:=by
 induction g with
 |zero=>intro S q acc h;omega
 |succ g H=>
  intro S q acc U N;obtain⟨S,rfl⟩: ∃L,S=L+1:=⟨S-1,by omega⟩;rw[zdT,zdT];refine zam fun a I=>zam fun b K=>?_
  split
  ·next M=>
   obtain⟨rfl,A⟩:=zbF I;have J:=zfZ K;have O:=zaG M (by decide);have V:=zfT A;simp only[zH] at J;exact H S _ _ (by rw[zH];omega) (by rw[zH];omega)
  ·rfl
theorem zgU (C:Cx) (h:Bool) (q:PS) (acc:List Ep):zaC C h q acc=bd (zq C true q) fun a=>bd (asP C h a) fun b=>
  if isT C b.1.pos 4 zbS then zaC C h (adv b.1) (acc++[⟨0,b.2,a.2,sNone⟩]) else bd (zd C 4 zbE b.1) fun q'=>.ok (q',acc++[⟨0,b.2,a.2,sNone⟩]):=by
 rw[zaC,zdT];refine zam fun a A=>zam fun b I=>?_
 split
 ·next J=>
  obtain⟨rfl,w⟩:=zbF A;have H:=zfZ I;have K:=zaG J (by decide);have L:=zfT w;simp only[zH] at H;exact zpL _ _ _ _ (by rw[zH];omega) (by rw[zH];omega)
 ·rfl
def zaf {α:Type} (f:α->PS->PR):List α->PR->PR
 |[],x=>x
 |a::l,x=>zaf f l (bd x (f a))
def zcs (s:BA0) (e:Ep):Im:=⟨s,e.loc,e.name⟩
def zaT (C:Cx) (x:PR):PRN:=bd (bd x (zd C 1 zac)) (zR C)
def zbu (C:Cx) (y:PRN):PRN:=bd y fun a=>bd (zd C 4 cSemi a.1) fun q=>.ok (q,a.2)
def zbo (C:Cx) (q:PS):PR:=
 bd (zd C 1 zat q) fun q=>
  if isT C q.pos 4 zU then bd (zd2 C false q) fun a=>bd (zbu C (zaT C (.ok a.1))) fun b=>zaf (fun e=>zau C (zcs b.2 e)) a.2 (.ok b.1)
  else if isT C q.pos 4 zG then bd (bd (bd (zd C 4 zG q) (zd C 1 sAs)) (zq C false)) fun a=>bd (zbu C (zaT C (.ok a.1))) fun b=>zau C ⟨b.2,zG,a.2⟩ b.1
  else if zO C q.pos false then bd (zq C false q) fun a=>bd (zbu C (zaT C (.ok a.1))) fun b=>zau C ⟨b.2,sDefault,a.2⟩ b.1
  else bd (zR C q) fun a=>zd C 4 cSemi a.1
def zL (e:Ep):Ep:=⟨1,e.name,e.loc,sNone⟩
def za2 (s:BA0) (e:Ep):Ep:=⟨2,e.name,e.loc,s⟩
def zav (C:Cx) (q:PS):PR:=
 bd (zd C 1 zaq q) fun q=>
  if isT C q.pos 4 zU then bd (zd2 C true q) fun a=>
   if !zaN a.2&& !isT C a.1.pos 1 zac then bd (zd C 4 cSemi a.1) fun q=>zaf (fun e=>zv C (zL e)) a.2 (.ok q)
   else bd (zbu C (zaT C (.ok a.1))) fun b=>zaf (fun e=>zv C (za2 b.2 e)) a.2 (.ok b.1)
  else if isT C q.pos 4 zG then bd (zbu C (zaT C (zd C 4 zG q))) fun b=>zv C ⟨3,sNone,sNone,b.2⟩ b.1
  else if isT C q.pos 1 sDefault then bd (bd (bd (bd (zd C 1 sDefault q) (pE C .sum 0)) (zd C 4 cSemi)) (zae C 1 zc2)) (zv C ⟨1,sDefault,zc2,sNone⟩)
  else if isT C q.pos 1 zN then bd (zdh C q) fun a=>zv C ⟨1,a.2,a.2,sNone⟩ a.1
  else if isT C q.pos 1 zab then bd (fnP C q) fun a=>zv C ⟨1,a.2,a.2,sNone⟩ a.1
  else .error (zz C q.pos)
def zK (C:Cx) (q:PS):PR:=
 if !C.scr&&isT C q.pos 1 zat then zbo C q
 else if !C.scr&&isT C q.pos 1 zaq then zav C q
 else if isT C q.pos 1 zN then zbc (zdh C q)
 else if isT C q.pos 1 zab then zbc (fnP C q)
 else if isT C q.pos 1 za5 then bd (bd (bd (bd (bd (zd C 1 za5 q) (zd C 4 zu)) (pE C .sum 0)) (zd C 4 zaF)) (zd C 4 cSemi)) (zae C 4 sNone)
 else if isT C q.pos 1 zaI then bd (bd (bd (zd C 1 zaI q) (pE C .sum 0)) (zd C 4 cSemi)) (zae C 5 sNone)
 else if C.scr&&isT C q.pos 1 zch then bd (bd (bd (zd C 1 zch q) (pE C .sum 0)) (zd C 4 cSemi)) (zae C 6 sNone)
 else bd (zq C false q) fun a=>bd (bd (bd (zd C 4 cEq a.1) (pE C .sum 0)) (zd C 4 cSemi)) (zae C 3 a.2)
theorem zaD (h:zd C z s q= .ok p):q.pos+1=p.pos:=by
 obtain⟨rfl,_⟩:=zcj h;rfl
theorem zfp {a:PS×BA0} (h:zq C w q= .ok a):q.pos+1=a.1.pos:=by
 obtain⟨rfl,_⟩:=zbF h;rfl
theorem zk2 {a:PS×BA0} (h:zR C q= .ok a):q.pos+1=a.1.pos:=by
 unfold zR at h
 split at h
 ·split at h
  ·cases h;rfl
  ·split at h
   ·cases h
   ·cases h;rfl
 ·cases h
theorem zfq (h:zae C z s q= .ok p):q.pos=p.pos:=by
 unfold zae at h
 split at h
 ·cases h
 ·cases h;rfl
theorem zi1 {y:Im} (h:zau C y q= .ok p):q.pos=p.pos:=by
 unfold zau at h
 split at h
 ·cases h
 ·cases h;rfl
theorem zfr {y:Ep} (h:zv C y q= .ok p):q.pos=p.pos:=by
 unfold zv at h
 split at h
 ·cases h
 ·split at h
  ·cases h;rfl
  ·cases h;rfl
theorem zi2 {α:Type} {f:α->PS->PR} (w: ∀a q q',f a q= .ok q'->q.pos=q'.pos) (l:List α): ∀(x:PR) (q':PS),zaf f l x= .ok q'->∃q,x= .ok q/\q.pos=q'.pos:=by
 induction l with
 |nil=>intro x q' h;exact⟨q',h,rfl⟩
 |cons a l A=>
  intro x q' h;obtain⟨b,J,H⟩:=A _ _ h;obtain⟨c,K,I⟩:=zr J;exact⟨c,K,(w _ _ _ I).trans H⟩
theorem zk3: ∀(q:PS) (acc:List Ep) (a:PS×List Ep),C.ts.length-q.pos<g->zaC C w q acc= .ok a->q.pos<=a.1.pos:=by
 induction g with
 |zero=>intro q acc a h;omega
 |succ g J=>
  intro q acc a U h;rw[zgU] at h;obtain⟨b,L,K⟩:=zr h;obtain⟨c,N,S⟩:=zr K;have V:=zfp L;have X:=zfZ N
  split at S
  ·next O=>
   have I:=zaG O (by decide);have:=J _ _ _ (by rw[zH];omega) S;rw[zH] at this;omega
  ·obtain⟨d,M,H⟩:=zr S;have I:=zaD M;cases H;show q.pos<=d.pos;omega
theorem zga {b:PS×BA0} (h:zbu C (zaT C W)= .ok b): ∃q,W= .ok q/\q.pos<=b.1.pos:=by
 obtain⟨a,J,H⟩:=zr h;obtain⟨c,M,I⟩:=zr H;obtain⟨d,L,w⟩:=zr J;obtain⟨e,K,A⟩:=zr L;have N:=zaD M;have U:=zk2 w;have O:=zaD A;cases I;exact⟨e,K,by show e.pos<=c.pos;omega⟩
theorem zpM (h:zbo C q= .ok p):q.pos<p.pos:=by
 obtain⟨q1,Y,A⟩:=zr h;have e1:=zaD Y
 split at A
 ·obtain⟨a,I,H⟩:=zr A;obtain⟨b,M,J⟩:=zr H;obtain⟨c,V,O⟩:=zr I;obtain⟨d,N,K⟩:=zga M;obtain⟨f,w,L⟩:=zi2 (fun _ _ _ h=>zi1 h) _ _ _ J;have X:=zaD V;have U:=zk3 _ _ _ _ (Nat.lt_succ_self _) O;cases N;cases w;omega
 ·split at A
  ·obtain⟨a,I,H⟩:=zr A;obtain⟨b,M,J⟩:=zr H;obtain⟨c,V,O⟩:=zr I;obtain⟨d,N,K⟩:=zr V;obtain⟨f,w,L⟩:=zga M;have X:=zi1 J;have U:=zfp O;have e4:=zaD N;have Z:=zaD K;cases w;omega
  ·split at A
   ·obtain⟨a,I,H⟩:=zr A;obtain⟨b,M,J⟩:=zr H;obtain⟨f,w,L⟩:=zga M;have X:=zi1 J;have U:=zfp I;cases w;omega
   ·obtain⟨a,I,H⟩:=zr A;have X:=zk2 I;have U:=zaD H;omega
theorem zk4 {y:PRN} {F:PR->BA0->PR} {a:PS×BA0} (h:withN y F= .ok a): ∃b,y= .ok b/\F (.ok b.1) b.2= .ok a.1:=by
 obtain⟨b,q,w⟩:=zr h;obtain⟨c,H,A⟩:=zr w;cases A;exact⟨b,q,H⟩
theorem zk5 {a:PS×BA0} (h:zdh C q= .ok a):q.pos<a.1.pos:=by
 obtain⟨b,L,J⟩:=zk4 h;obtain⟨c,O,K⟩:=zr L;obtain⟨d,N,A⟩:=zr J;obtain⟨f,M,I⟩:=zr N;obtain⟨g,H,w⟩:=zr M;have V:=zaD O;have e2:=zfp K;have X:=zaD (show zd C 4 cEq b.1= .ok g from H);have Z:=zbt w;have U:=zaD I;have Y:=zfq A;omega
theorem zk6 {a:PS×BA0} (h:fnP C q= .ok a):q.pos<a.1.pos:=by
 obtain⟨b,V,O⟩:=zk4 h;obtain⟨c,h3,U⟩:=zr V;obtain⟨d,Y,h6⟩:=zr O;obtain⟨f,X,h8⟩:=zr Y;obtain⟨g,h9,I⟩:=zr X;obtain⟨i,L,J⟩:=zr h9;obtain⟨j,w,A⟩:=zr L;obtain⟨k,K,M⟩:=zr w;obtain⟨l,H,N⟩:=zr K;have e1:=zaD h3;have e2:=zfp U;have e3:=zaD (show zd C 4 zu b.1= .ok l from H);have e4:=zaD N;have e5:=zaD M;have e6:=zaD A;have e7:=zbt J;have e8:=zaD I;have e9:=zaD h8;have Z:=zfq h6;omega
theorem zpN (h:zav C q= .ok p):q.pos<p.pos:=by
 obtain⟨q1,Y,w⟩:=zr h;have e1:=zaD Y
 split at w
 ·obtain⟨a,K,A⟩:=zr w;obtain⟨c,V,X⟩:=zr K;have N:=zaD V;have O:=zk3 _ _ _ _ (Nat.lt_succ_self _) X
  split at A
  ·obtain⟨b,I,L⟩:=zr A;obtain⟨f,J,U⟩:=zi2 (fun _ _ _ h=>zfr h) _ _ _ L;have Z:=zaD I;cases J;omega
  ·obtain⟨b,I,L⟩:=zr A;obtain⟨d,M,H⟩:=zga I;obtain⟨f,J,U⟩:=zi2 (fun _ _ _ h=>zfr h) _ _ _ L;cases M;cases J;omega
 ·split at w
  ·obtain⟨b,I,L⟩:=zr w;obtain⟨d,M,H⟩:=zga I;have N:=zaD M;have O:=zfr L;omega
  ·split at w
   ·obtain⟨a,K,A⟩:=zr w;obtain⟨b,I,L⟩:=zr K;obtain⟨c,V,X⟩:=zr I;obtain⟨d,M,H⟩:=zr V;have N:=zaD M;have O:=zbt H;have Z:=zaD X;have e5:=zfq L;have e6:=zfr A;omega
   ·split at w
    ·obtain⟨a,K,A⟩:=zr w;have N:=zk5 K;have O:=zfr A;omega
    ·split at w
     ·obtain⟨a,K,A⟩:=zr w;have N:=zk6 K;have O:=zfr A;omega
     ·cases w
theorem zk7 {n:BA0} (h:bd (bd (bd (zd C 1 s q) (pE C .sum 0)) (zd C 4 cSemi)) (zae C z n)= .ok p):q.pos<p.pos:=by
 obtain⟨a,I,A⟩:=zr h;obtain⟨b,K,H⟩:=zr I;obtain⟨c,J,w⟩:=zr K;have L:=zaD J;have O:=zbt w;have M:=zaD H;have N:=zfq A;omega
theorem zgV (h:zK C q= .ok p):q.pos<p.pos:=by
 unfold zK at h
 split at h
 ·exact zpM h
 ·split at h
  ·exact zpN h
  ·split at h
   ·obtain⟨a,A,w⟩:=zr h;cases w;exact zk5 A
   ·split at h
    ·obtain⟨a,A,w⟩:=zr h;cases w;exact zk6 A
    ·split at h
     ·obtain⟨a,A,w⟩:=zr h;obtain⟨b,N,K⟩:=zr A;obtain⟨c,M,H⟩:=zr N;obtain⟨d,L,I⟩:=zr M;obtain⟨e,U,J⟩:=zr L;have V:=zaD U;have Z:=zaD J;have X:=zbt I;have Y:=zaD H;have O:=zaD K;have e6:=zfq w;omega
     ·split at h
      ·exact zk7 h
      ·split at h
       ·exact zk7 h
       ·obtain⟨a,A,w⟩:=zr h;obtain⟨b,N,K⟩:=zr w;obtain⟨c,M,H⟩:=zr N;obtain⟨d,L,I⟩:=zr M;have V:=zfp A;have Z:=zaD L;have X:=zbt I;have Y:=zaD H;have O:=zfq K;omega
def zdU (C:Cx):Nat->PS->PR
 |0,_=>.error 0
 |f+1,q=>if q.pos<C.ts.length then bd (zK C q) (zdU C f) else .ok q
def za6 (C:Cx) (q:PS):PR:=zdU C (C.ts.length-q.pos+1) q
theorem zpO: ∀(S:Nat) (q:PS),C.ts.length-q.pos<g->C.ts.length-q.pos<S->zdU C g q=zdU C S q:=by
 induction g with
 |zero=>intro S q h;omega
 |succ g w=>
  intro S q J I;obtain⟨S,rfl⟩: ∃H,S=H+1:=⟨S-1,by omega⟩;rw[zdU,zdU]
  split
  ·refine zam fun a A=>?_;have:=zgV A;exact w S a (by omega) (by omega)
  ·rfl
theorem zgW (C:Cx) (q:PS):za6 C q=if q.pos<C.ts.length then bd (zK C q) (za6 C) else .ok q:=by
 rw[za6,zdU]
 split
 ·refine zam fun a h=>?_;have:=zgV h;exact zpO _ _ _ (by omega) (by omega)
 ·rfl
def zcl:PS:=⟨0,[],[],[],[],[],[]⟩
def zbJ (s:BA0) (scr:Bool) (y:PR):Prop:=∃r,zap s scr r/\y=match r with
 | .error p=>.error p
 | .ok ts=>za6 ⟨ts,s.size,scr⟩ zcl
theorem zk8 {S:PR} (J:zbJ s w W) (A:zbJ s w S):W=S:=by
 obtain⟨L,H,rfl⟩:=J;obtain⟨K,I,rfl⟩:=A;obtain rfl:=zp4 H I;rfl
theorem zpP {a n:Nat} {r:Except Nat (List Tk)} (h:Lx s w a n r): ∀S,r= .ok S->n<=4000->S.length+n<=4000:=by
 induction h using Lx.ind with
 |done=>intro S A I;cases A;simpa using I
 |bad _ _=>intro S A I;cases A
 | @tok a n e b t r h I K L A J=>
  intro S q _;cases r with
  |error p=>simp[Except.map] at q
  |ok l=>
   simp only[Except.map,Except.ok.injEq] at q;subst q;have:=J l rfl (by omega);simp only[List.length_cons];omega
theorem zk9 {q:List Tk} (h:zap s w (.ok q)):q.length<=4000:=by
 obtain⟨a,_,A⟩:=h;have:=zpP A q rfl (by omega);omega
theorem gS {α:Type _} {l:List α} {i:Nat} {a:α} (h:l[i]? = some a):∃ h,l[i] = a:=List.getElem?_eq_some_iff.1 h
def R0:Rw:=⟨none,0⟩
def S0:Sv:=⟨R0,R0,R0,R0,R0,R0⟩
variable (w:World) (g:Nat) {W:World} {b c d:Nat} {C:TypeId} {S:Rw} {q:List Value} {z:Array Oper} {s:List Oper} {n:Oper} {k:Act} {D:Cx} {T:Sv} {p:PS}
theorem zdi (size:Nat) (e:TypeId):OwnR w g e size R0 0 []:=World.ownsRow_nil w g e size
theorem zpQ:Own w g S0 zcl:=
 ⟨zdi _ _ _ _,zdi _ _ _ _,zdi _ _ _ _,zdi _ _ _ _,zdi _ _ _ _,zdi _ _ _ _,fun k h=>by simp[S0,R0,Rw.blk,Value.ownBlock] at h⟩
theorem zkA {A:List Tk} {n:Nat} {H:Bool} (h:OwnT W b 157 c A.length d A) (I:A.length<=4000) (J:b<=W.heap.size):Mem ⟨A,n,H⟩ c d b S0 zcl W:=
 ⟨zpQ _ _,⟨Nat.zero_le _,Nat.zero_le _,Nat.zero_le _,Nat.zero_le _,Nat.zero_le _,Nat.zero_le _⟩,h,I,J⟩
structure OwnMod (w:World) (base:Nat) (S:Sv) (q:PS):Prop where
 rq:OwnR w base 9 1 S.rq q.rq.length (q.rq.map .string)
 im:OwnR w base 101 3 S.im q.im.length (q.im.flatMap imL)
 ep:OwnR w base 103 4 S.ep (q.ep++q.la).length ((q.ep++q.la).flatMap epL)
 st:OwnR w base 108 3 S.st q.st.length (q.st.flatMap smL)
 ex:OwnR w base 106 6 S.ex q.ex.length (q.ex.flatMap exL)
 inv:q.rq.length<=40/\q.im.length<=40/\q.ep.length+q.la.length<=40/\q.st.length<=80/\q.ex.length<=300
def zgX (S:Sv) (q:PS):Value:=.agg #[.slice S.rq.a q.rq.length S.rq.cap,.slice S.im.a q.im.length S.im.cap,.slice S.ep.a (q.ep++q.la).length S.ep.cap,.slice S.st.a q.st.length S.st.cap,.slice S.ex.a q.ex.length S.ex.cap]
def ParseOut (s:BA0) (scr:Bool) (w:World) (e:Ending) (w':World):Prop:=
 ∃y,zbJ s scr y/\match y with
  | .ok q=>∃S,e= .returned (.tuple #[zgX S q,.int .i64 (-1)])/\OwnMod w' w.heap.size S q
  | .error p=>e= .returned (.tuple #[.agg bxN,.int .i64 p])
theorem OwnR.low {n:Nat} {xs:List Value} (h:OwnR W b C d S n xs) (K:c<=b):OwnR W c C d S n xs:=by
 refine⟨h.1,?_⟩;rcases h.2 with H|⟨g,I,A,H,J,rest⟩
 ·exact .inl H
 ·exact .inr ⟨g,I,A,H,Nat.le_trans K J,rest⟩
theorem OwnR.nil_or (h:OwnR W b C c S d q):(S.a=none/\S.cap=0/\d=0)∨∃g,S.a=some ⟨g,0,none⟩:=by
 rcases h.2 with ⟨m,I⟩|⟨g,H,A,m,_⟩
 ·simp only[vI] at m;exact .inl ⟨m.1,m.2.2,I⟩
 ·simp only[vI] at m;exact .inr ⟨g,m.1⟩
theorem zpR {P:Program} {Q:Exit->Act->World->Prop} (X:n.guard=none) (F x:Operand) (t:TypeId) (ho:n.op= .call {callee:=.builtin .append,args:=#[F,x],argTypes:=#[t,t]}) (base:Nat) (e:TypeId) (i:TypeInfo) (E:Value) (size q:Nat) (ht:P.underlying t=some (.slice e)) (hi:P.info? e=some i) (hz:i.zero=some E) (H:i.size=size) (ab:i.bytes=q) (ac:E.cells.size=size) (aa:0<size) (M:q<=100) (r:Rw) (G:Nat) (xs:List Value) (hs:k.eval F= .slice r.a G r.cap) (K:OwnR w base e size r G xs) (O m c J:Nat) (B:List Value) (hx:k.eval x= .slice (some ⟨O,0,none⟩) m c) (Z:OwnR w J e size ⟨some ⟨O,0,none⟩,c⟩ m B) (h1: ∀u∈B,u.oneCell'=true) (hn:G+m<=4000000) (I:base<=w.heap.size) (h: ∀L w',OwnR w' base e size L (G+m) (xs++B)->w.grownBy w' r.blk->(L.blk=r.blk∨L.blk=some w.heap.size)->wpList P z Q s (k.put n.dst (.slice L.a (G+m:Nat) L.cap)) w'):
  wpList P z Q (n::s) k w:=by
 refine wpList_append_own_at _ X F x t ho base e i E size q ht hi hz H ab ac aa _ G _ hs K ⟨O,0,none⟩ m c B hx Z.1 ?_ h1 ?_ ?_ I ?_
 ·intro j u hj;have e1:(⟨O,0,none⟩:Addr).add j=⟨O,j,none⟩:=by simp[Addr.add];exact fun h=>h.symm
  have Y:j<B.length:=(gS hj).1;rw[e1,World.ownsRow.cellAt Z j (by rw[<-Z.1];exact Y)];exact hj
 ·unfold maxLen;omega
 ·have:(G+m)*q<=4000000*100:=Nat.mul_le_mul hn M;omega
 ·intro v' w' V k2 k3 k4;rcases V.2 with ⟨hv,U⟩|⟨g',A,ae,rfl,ad⟩
  ·subst hv;have:=h ⟨none,0⟩ w' (by rw[U] at V ⊢;exact V) (by rw[<-zbI r G];exact k2) (by rw[<-zbI r G];exact k4);rw[U] at this;exact this
  ·refine h ⟨some ⟨g',0,none⟩,A⟩ w' V ?_ ?_
   ·rw[<-zbI r G];exact k2
   ·rw[<-zbI r G,<-zbI ⟨some ⟨g',0,none⟩,A⟩ (G+m)];exact k4
theorem zpS {P:Program} {m:Array Oper} {Q:Exit->Act->World->Prop} (A:n.guard=none) (B x:Operand) (t:TypeId) (M:n.op= .call {callee:=.builtin .append,args:=#[B,x],argTypes:=#[t,t]}) (e:TypeId) (i:TypeInfo) (I:P.underlying t=some (.slice e)) (J:P.info? e=some i) (base size E:Nat) (r:Rw) (xs:List Value) (V:k.eval B= .slice r.a E r.cap) (q:OwnR w base e size r E xs) (X:k.eval x= .slice none 0 0) (h:wpList P m Q s (k.put n.dst (.slice r.a E r.cap)) w):wpList P m Q (n::s) k w:=by
 have N:(Builtin.append_ #[t,t] n.type #[.slice r.a E r.cap,.slice none 0 0]).run P w= .ok (.slice r.a E r.cap) w:=by
  rcases q.2 with ⟨H,_⟩|⟨g,U,L,H,_,_,Y,_⟩
  ·rw[H];simp[Builtin.append_,run_underlying I,sizeOf,typeInfo,J,Builtin.lenOf,Builtin.firstCells]
  ·rw[H];simp[Builtin.append_,run_underlying I,sizeOf,typeInfo,J,Builtin.lenOf,Builtin.firstCells,loadCells,Y,storeCells]
 refine wpList_plain A fun K O=>?_;unfold Oper.wp execOp;simp only[M,resolve,invoke,builtin,Sem.run_bind,Sem.run_pure,Result.andThen_ok,List.map_toArray,List.map_cons,List.map_nil,V,X,N];exact O _ _ h
theorem zi3 (l:List Ep): ∀u∈l.flatMap epL,u.oneCell'=true:=by
 intro u h;rw[List.mem_flatMap] at h;obtain⟨x,_,q⟩:=h;simp[epL] at q;rcases q with rfl|rfl|rfl|rfl<;>rfl
theorem Mem.whole {m B:Nat} {w' O:World} {J:Rw} (H:Mem D b c d T p W) (Y:W.grownBy w' T.ep.blk) (X:OwnR w' d 103 4 J (p.ep.length+p.la.length) (p.ep.flatMap epL++p.la.flatMap epL)) (L:J.blk=T.ep.blk∨J.blk=some W.heap.size) (hB:B<d) (hb:m<W.heap.size) (w: ¬T.has m) (V: ∀k,k≠B->k≠m->O.heap[k]? =w'.heap[k]?):OwnMod O B {T with ep:=J} p:=by
 have I:(p.ep++p.la).length=p.ep.length+p.la.length:=by simp
 have K: ∀(r:Rw) (e:TypeId) (A n:Nat) (U:List Value),OwnR W d e A r n U->e≠103->(∀k,r.blk=some k->T.has k)->OwnR O B e A r n U:=fun r e A n U h he hs=>
  ((h.keep fun k g=>(V k (by have:=(h.typed g).1;omega) (fun N=>w (by rw[<-N];exact hs k g))).trans (Y.block k (h.typed g).2.1 fun Z=>(h.ne H.own.ep he g) Z.symm)).low (by omega))
 refine⟨K _ _ _ _ _ H.own.rq (by decide) fun k g=>.inl g,K _ _ _ _ _ H.own.im (by decide) fun k g=>.inr (.inl g),?_,K _ _ _ _ _ H.own.st (by decide) fun k g=>.inr (.inr (.inr (.inl g))),K _ _ _ _ _ H.own.ex (by decide) fun k g=>.inr (.inr (.inr (.inr (.inl g)))),H.inv.rq,H.inv.im,H.inv.ep,H.inv.st,H.inv.ex⟩;rw[I,List.flatMap_append];refine (X.keep fun k g=>V k (by have:=(X.typed g).1;omega) ?_).low (by omega);rcases L with e|e
 ·intro N;exact w (by rw[<-N];exact .inr (.inr (.inl (by rw[<-e];exact g))))
 ·have:W.heap.size=k:=oI (e.symm.trans g);omega
theorem Mem.whole0 {m B:Nat} {L:World} (A:Mem D b c d T p W) (M:p.la=[]) (hB:B<d) (H: ¬T.has m) (V: ∀k,k≠B->k≠m->L.heap[k]? =W.heap[k]?):OwnMod L B T p:=by
 have I: ∀(r:Rw) (e:TypeId) (w n:Nat) (J:List Value),OwnR W d e w r n J->(∀k,r.blk=some k->T.has k)->OwnR L B e w r n J:=fun r e w n J h O=>
  ((h.keep fun k g=>V k (by have:=(h.typed g).1;omega) (fun N=>H (by rw[<-N];exact O k g))).low (by omega))
 refine⟨I _ _ _ _ _ A.own.rq fun k g=>.inl g,I _ _ _ _ _ A.own.im fun k g=>.inr (.inl g),?_,I _ _ _ _ _ A.own.st fun k g=>.inr (.inr (.inr (.inl g))),I _ _ _ _ _ A.own.ex fun k g=>.inr (.inr (.inr (.inr (.inl g)))),A.inv.rq,A.inv.im,A.inv.ep,A.inv.st,A.inv.ex⟩;rw[M,List.append_nil];exact I _ _ _ _ _ A.own.ep fun k g=>.inr (.inr (.inl g))
theorem zl {v0 v1 v2 v3 v4:Value} (h:W.heap[b]? =some (.cells #[v0,v1,v2,v3,v4] C (0,0))):
  W.cell? ⟨b,0,none⟩=some v0/\W.cell? ⟨b,1,none⟩=some v1/\W.cell? ⟨b,2,none⟩=some v2/\W.cell? ⟨b,3,none⟩=some v3/\W.cell? ⟨b,4,none⟩=some v4/\∀i,W.frozen? ⟨b,i,none⟩=false:=by
 refine⟨?_,?_,?_,?_,?_,fun i=>?_⟩<;>simp[World.cell?,World.frozen?,h]
theorem zaj {i:Nat} {q:Array Value} {u:Value} (h:W.heap[b]? =some (.cells q C (0,0))):(W.setCell ⟨b,i,none⟩ u).heap[b]? =some (.cells (q.setIfInBounds i u) C (0,0)):=by
 simp only[World.setCell,Array.getElem?_modify];rw[if_pos trivial,h];rfl
theorem zdV {v0 v1 v2 v3 v4 q H J I A:Value} (h:W.heap[b]? =some (.cells #[v0,v1,v2,v3,v4] C (0,0))):
  (((((W.setCell ⟨b,0,none⟩ q).setCell ⟨b,1,none⟩ H).setCell ⟨b,2,none⟩ J).setCell ⟨b,3,none⟩ I).setCell ⟨b,4,none⟩ A).heap[b]? =some (.cells #[q,H,J,I,A] C (0,0)):=by
 have e:=zaj (i:=4) (u:=A) (zaj (i:=3) (u:=I) (zaj (i:=2) (u:=J) (zaj (i:=1) (u:=H) (zaj (i:=0) (u:=q) h))));rw[e];simp
theorem zeo {w:World} {m:Nat} (h:Below b W w) (q:b<=m) (A I K J H:Value):Below b W (((((w.setCell ⟨m,0,none⟩ A).setCell ⟨m,1,none⟩ I).setCell ⟨m,2,none⟩ K).setCell ⟨m,3,none⟩ J).setCell ⟨m,4,none⟩ H):=
 ((((h.setCell q _).setCell q _).setCell q _).setCell q _).setCell q _
abbrev okc (c:Int):Prop:=(97<=c/\c<=122)∨(48<=c/\c<=57)∨c=46∨c=95∨c=45∨c=47
abbrev zcK (s:BA0):Prop:=1<=s.size/\s.size<=40/\bt s 0=47/\∀j,j<s.size->okc (bt s j)
def zbe (s:BA0):Bool:=decide (zcK s)
variable (s:BA0) (w:List BA0) (g:Nat) {t:BA0} {b c d n:Nat} {W:List BA0} {V:World} {C:TypeId} {S:Nat->BA0}
theorem zl2 (h:zcK t):zbe t=true:=decide_eq_true h
theorem zea (h: ¬zcK t):zbe t=false:=dF h
theorem zet:zbe t=true↔zcK t:=decide_eq_true_iff
def upd (p:BA0) (l:List BA0):List BA0:=
 if p.toList.isEmpty=true∨(p.toList==[46])=true then l else if (p.toList==[46,46])=false then l++[p] else l.dropLast
def zgu (s:BA0) (i:Nat) (st:Nat×List BA0):Nat×List BA0:=
 if i<s.size/\bt s i≠47 then st else (i+1,upd (s.extract st.1 i) st.2)
def zad (s:BA0):Nat->Nat×List BA0
 |0=>(0,[])
 |k+1=>zgu s k (zad s k)
theorem zrK:(upd s w).length<=w.length+1:=by
 unfold upd
 split
 ·omega
 ·split
  ·simp
  ·simp;omega
theorem ziQ:(zad s g).1<=g/\(zad s g).2.length<=g:=by
 induction g with
 |zero=>simp[zad]
 |succ g q=>
  have h:=zrK (s.extract (zad s g).1 g) (zad s g).2;unfold zad zgu
  split
  ·omega
  ·simp only;omega
theorem zl3 (h:b<t.size) (q:bt t b≠47):zad t (b+1)=zad t b:=by rw[zad,zgu,if_pos ⟨h,q⟩]
theorem zl4 (h: ¬(b<t.size/\bt t b≠47)):zad t (b+1)=(b+1,upd (t.extract (zad t b).1 b) (zad t b).2):=by rw[zad,zgu,if_neg h]
theorem zhv (h:t.toList.isEmpty=true):upd t W=W:=by rw[upd,if_pos (.inl h)]
theorem ziR (h:(t.toList==[46])=true):upd t W=W:=by rw[upd,if_pos (.inr h)]
theorem ziS (w:t.toList.isEmpty=false) (h:(t.toList==[46])=false) (q:(t.toList==[46,46])=false):upd t W=W++[t]:=by
 rw[upd,if_neg (by rw[w,h];simp),if_pos q]
theorem ziT (w:t.toList.isEmpty=false) (h:(t.toList==[46])=false) (q:(t.toList==[46,46])=true):upd t W=W.dropLast:=by
 rw[upd,if_neg (by rw[w,h];simp),if_neg (by rw[q];simp)]
def parts (s:BA0):List BA0:=(zad s (s.size+1)).2
def zc5 (l:List BA0):Nat->BA0
 |0=>{data:=#[]}
 |k+1=>zc5 l k++{data:=#[47]}++l.getD k {data:=#[]}
def zaR (s:BA0):BA0:=if zbe s then (if (parts s).length=0 then {data:=#[47]} else zc5 (parts s) (parts s).length) else {data:=#[]}
theorem ziU (h:zbe t=false):zaR t={data:=#[]}:=by rw[zaR,h];rfl
theorem ziV (h:zbe t=true) (q:(parts t).length=0):zaR t={data:=#[47]}:=by rw[zaR,h,if_pos rfl,if_pos q]
theorem ziW (h:zbe t=true) (q: ¬(parts t).length=0):zaR t=zc5 (parts t) (parts t).length:=by rw[zaR,h,if_pos rfl,if_neg q]
theorem zrL (z:s.size<=g) (q: ∀x∈w,x.size<=g): ∀x∈upd s w,x.size<=g:=by
 intro x h;unfold upd at h
 split at h
 ·exact q x h
 ·split at h
  ·simp only[List.mem_append,List.mem_singleton] at h;rcases h with h|rfl
   ·exact q x h
   ·exact z
  ·exact q x ((List.dropLast_sublist w).subset h)
theorem zl5: ∀x∈(zad s g).2,x.size<=s.size:=by
 induction g with
 |zero=>simp[zad]
 |succ g h=>
  unfold zad zgu
  split
  ·exact h
  ·exact zrL _ _ _ (by rw[ByteArray.size_extract];omega) h
theorem zl6 (h: ∀x∈w,x.size<=s.size) (k:Nat):(w.getD k {data:=#[]}).size<=s.size:=by
 by_cases q:k<w.length
 ·have e:w.getD k {data:=#[]}=w[k]:=by simp[List.getD,gE q]
  rw[e];exact h _ (List.getElem_mem q)
 ·have e:w.getD k {data:=#[]}={data:=#[]}:=by simp[List.getD,List.getElem?_eq_none (Nat.le_of_not_lt q)]
  rw[e];exact Nat.zero_le _
theorem zl7 (h: ∀x∈w,x.size<=s.size) (k:Nat):(zc5 w k).size<=k*(s.size+1):=by
 induction k with
 |zero=>exact Nat.zero_le _
 |succ k q=>
  have:=zl6 s w h k;rw[zc5,sA,sA,Nat.succ_mul];have e:({data:=#[47]}:BA0).size=1:=rfl;omega
def zbw (w:World) (base:Nat) (e:TypeId) (g n cap:Nat) (xs:List BA0):Prop:=w.ownsRow base e 1 (.slice (some ⟨g,0,none⟩) n cap) n (xs.map Value.string)/\n=xs.length
theorem zhw {q:Nat} (h:zbw V b C c d q W):d=W.length:=h.2
theorem ziX {q:Nat} (h:zbw V b C c d q W):d<=q/\q<=9223372036854775807/\b<=c:=by
 rcases h.1.2 with ⟨A,_⟩|⟨M,H,I,A,K,_,L,J,_⟩
 ·simp at A
 ·simp only[Value.slice.injEq,sI0,Addr.mk.injEq,and_true,true_and] at A;obtain⟨rfl,rfl⟩:=A;unfold maxLen at J;exact⟨L,by omega,K⟩
theorem ziY {q:Nat} (h:zbw V b C c d q W) (j:Nat) (A:j<d):V.cell? ⟨c,j,none⟩=some (.string (W.getD j {data:=#[]})):=by
 have H:=h.2;rw[h.1.cellAt j (by omega)];simp[List.getD,gE (show j<W.length by omega)]
theorem zl8 {q:Nat} (h:zbw V b C c (d+1) q W):zbw V b C c d q W.dropLast:=by
 obtain⟨⟨L,z⟩,X⟩:=h;rw[List.length_map] at L;refine⟨⟨by rw[List.length_map,List.length_dropLast];omega,?_⟩,by rw[List.length_dropLast];omega⟩;rcases z with ⟨I,_⟩|⟨Y,J,A,I,O,U,M,K,H,N⟩
 ·simp at I
 ·simp only[Value.slice.injEq,sI0,Addr.mk.injEq,and_true,true_and] at I;obtain⟨rfl,rfl⟩:=I;refine .inr ⟨c,q,A,rfl,O,U,by omega,K,H,?_⟩;rw[List.map_dropLast,<-N,List.dropLast_eq_take,List.length_take,List.take_take];congr 1;have:A.toList.length=q:=by rw[Array.length_toList,H,Nat.mul_one]
  omega
theorem zhx {P:Program} (w:World) {K:Array Oper} {rest:List Oper} {o:Oper} {a:Act} {Q:Exit->Act->World->Prop} (N:o.guard=none) (s x:Operand) (t:TypeId) (ho:o.op= .call {callee:=.builtin .append,args:=#[s,x],argTypes:=#[t,t]}) (base:Nat) (e:TypeId) (i:TypeInfo) (z:Value) (ht:P.underlying t=some (.slice e)) (hi:P.info? e=some i) (hz:i.zero=some z) (H:i.size=1) (O:i.bytes=16) (U:z.cells.size=1) (g n J:Nat) (xs:List BA0) (hs:a.eval s= .slice (some ⟨g,0,none⟩) n J) (A:zbw w base e g n J xs) (b:BA0) (hx:a.eval x= .slice (some ⟨w.heap.size,0,none⟩) 1 1) (hn:n+1<=100000000) (I:base<=w.heap.size) (h: ∀L q w',zbw w' base e L (n+1) q (xs++[b])->Below base w w'->wpList P K Q rest (a.put o.dst (.slice (some ⟨L,0,none⟩) (n+1) q)) w'):
  wpList P K Q (o::rest) a (w.alloc (.cells #[.string b] e)):=by
 refine wpList_append_own _ N s x t ho base e i z 1 16 ht hi hz H O U (by decide) _ n _ hs (A.1.alloc _) ⟨w.heap.size,0,none⟩ 1 1 [.string b] hx rfl ?_ ?_ ?_ ?_ ?_ ?_
 ·intro j u M
  match j,M with
  |0,M=>
   simp at M;subst M;simp[Addr.add]
 ·intro u Y;simp at Y;subst Y;rfl
 ·unfold maxLen;omega
 ·omega
 ·simp;omega
 ·intro v' w' X Z h3;have hb:Below base w w':=((Below.refl base w).alloc I _).grown Z (by simp;omega) (ziz A.1);rcases X.2 with ⟨hv,_⟩|⟨L,q,aa,rfl,V⟩
  ·have:=(h3.1 hv).1;simp at this
  ·refine h L q w' ⟨?_,by rw[List.length_append];have:=A.2;simp;omega⟩ hb;rw[List.map_append];exact X
def zzX (a s:BA0):Bool:=decide (a.size<=s.size)&&((s.extract 0 a.size).toList==a.toList)
structure FilesAt (w:World) (a:Option Addr) (b off len:Nat) (Pt Tx:Nat->BA0):Prop where
 addr:0<len->a=some ⟨b,off,none⟩
 lt:0<len->b<w.heap.size
 path: ∀j,j<len->w.cell? ⟨b,off+j*2,none⟩=some (.string (Pt j))
 text: ∀j,j<len->w.cell? ⟨b,off+j*2+1,none⟩=some (.string (Tx j))
theorem FilesAt.later {w':World} {a:Option Addr} {b q:Nat} {K:Nat->BA0} (h:FilesAt V a b q c S K) (I:Bw V w'):FilesAt w' a b q c S K:=
 ⟨h.addr,fun k=>Nat.lt_of_lt_of_le (h.lt k) I.size,fun j H=>by rw[I.cell (h.lt (by omega))];exact h.path j H,fun j H=>by rw[I.cell (h.lt (by omega))];exact h.text j H⟩
def OwnF (w:World) (base:Nat) (e:TypeId) (g len k:Nat) (Pt Tx:Nat->BA0):Prop:=
 ∃xs,w.ownsRow base e 2 (.slice (some ⟨g,0,none⟩) len len) len xs/\∀j,j<k->xs[j*2]? =some (.string (Pt j))/\xs[j*2+1]? =some (.string (Tx j))
theorem OwnF.has {J:Nat->BA0} (h:OwnF V b C c d n S J) (j:Nat) (H:j<d*2): ∃v,V.cell? ⟨c,j,none⟩=some v:=by
 obtain⟨L,A,_⟩:=h;have K:=A.1;rw[A.cellAt j H];exact⟨_,gE (by omega)⟩
theorem OwnF.free {A:Nat->BA0} (h:OwnF V b C c d n S A) (j:Nat):V.frozen? ⟨c,j,none⟩=false:=by
 obtain⟨J,H,_⟩:=h;exact H.frozenAt j
theorem OwnF.lt {g:Nat} {N:Nat->BA0} (h:OwnF V b C g c d S N):g<V.heap.size/\b<=g:=by
 obtain⟨O,K,_⟩:=h;rcases K.2 with ⟨q,_⟩|⟨U,H,I,q,L,M,_⟩
 ·simp at q
 ·simp only[Value.slice.injEq,sI0,Addr.mk.injEq,and_true,true_and] at q;obtain⟨rfl,rfl⟩:=q;exact⟨(aLt M),L⟩
theorem OwnF.files {L:Nat->BA0} (h:OwnF V b C c d d S L):FilesAt V (some ⟨c,0,none⟩) c 0 d S L:=by
 have A:=h.lt.1;obtain⟨M,K,I⟩:=h;refine⟨fun _=>rfl,fun _=>A,fun j H=>?_,fun j H=>?_⟩
 ·rw[Nat.zero_add,K.cellAt _ (by omega)];exact (I j H).1
 ·rw[Nat.zero_add,K.cellAt _ (by omega)];exact (I j H).2
theorem OwnF.later {w':World} {N:Nat->BA0} (h:OwnF V b C c d n S N) (X:Bw V w'):OwnF w' b C c d n S N:=by
 have I:=h.lt.1;obtain⟨z,L,O⟩:=h;refine⟨z,⟨L.1,?_⟩,O⟩;rcases L.2 with n|⟨Z,M,H,J,q,Y,U⟩
 ·exact .inl n
 ·simp only[Value.slice.injEq,sI0,Addr.mk.injEq,and_true,true_and] at J;obtain⟨rfl,rfl⟩:=J;exact .inr ⟨c,d,H,rfl,q,(X.block c I).trans Y,U⟩
def fpB (p:BA0):Bool:=zbe p&& !(p.toList==[47])&&((zaR p).toList==p.toList)
def zl9 (p t:BA0):Bool:=fpB p&&decide ((t.size:Int)<=1500)
abbrev zrM (len:Nat) (Pt Tx:Nat->BA0):Prop:=len<=8/\∀k,k<len->zl9 (Pt k) (Tx k)=true/\(0<k->Op.bytesLess (Pt (k-1)).toList (Pt k).toList=true)
def zrN (len:Nat) (Pt Tx:Nat->BA0):Bool:=decide (zrM len Pt Tx)
abbrev zzY (k:Nat) (Pt Tx:Nat->BA0):Prop:=∀j,j<k->zl9 (Pt j) (Tx j)=true/\(0<j->Op.bytesLess (Pt (j-1)).toList (Pt j).toList=true)
theorem zrO (q:t.toList.isEmpty=false) (h:((zaR t).toList==t.toList)=true):zbe t=true:=by
 cases w:zbe t with
 |true=>rfl
 |false=>
  rw[ziU w] at h;have e:=(ze6 _ _).1 h;rw[<-e,Lib.toList_data] at q;cases q
def ziZ (Pt Tx:Nat->BA0) (q:BA0):Nat->BA0×Bool
 |0=>({data:=#[]},false)
 |k+1=>if (ziZ Pt Tx q k).2=true then ziZ Pt Tx q k else if Pt k=q then (Tx k,true) else ({data:=#[]},false)
def zzZ (len:Nat) (Pt Tx:Nat->BA0) (q:BA0):BA0×Bool:=if zrN len Pt Tx=true then ziZ Pt Tx q len else ({data:=#[]},false)
open Go.Deep
def RowAt {α:Type} (w:World) (a:Option Addr) (f:α->List Value) (m:Nat) (l:List α):Prop:=
 l=[]∨∃b off,a=some ⟨b,off,none⟩/\b<w.heap.size/\∀j x,l[j]? =some x->∀i v,(f x)[i]? =some v->w.cell? ⟨b,off+j*m+i,none⟩=some v
variable {w:World} {W:Option Addr} {g:Nat} {C:Addr} {S:Value}
theorem RowAt.later {α:Type} {w':World} {f:α->List Value} {l:List α} (h:RowAt w W f g l) (H:Bw w w'):RowAt w' W f g l:=by
 rcases h with h|⟨b,A,I,q,K⟩
 ·exact .inl h
 ·exact .inr ⟨b,A,I,Nat.lt_of_lt_of_le q H.size,fun j x L i v J=>by rw[H.cell q];exact K j x L i v J⟩
theorem RowAt.get {α:Type} {f:α->List Value} {l:List α} (h:RowAt w W f g l) {j:Nat} {x:α} (A:l[j]? =some x): ∃b q,W=some ⟨b,q,none⟩/\∀i v,(f x)[i]? =some v->w.cell? ⟨b,q+j*g+i,none⟩=some v:=by
 rcases h with h|⟨b,q,I,H,J⟩
 ·rw[h] at A;cases A
 ·exact⟨b,q,I,J j x A⟩
theorem zbx {α:Type} {f:α->List Value} {m:Nat} (w: ∀x,(f x).length=m) (l:List α): ∀(k:Nat) (x:α) (i:Nat) (v:Value),l[k]? =some x->(f x)[i]? =some v->(l.flatMap f)[k*m+i]? =some v:=by
 induction l with
 |nil=>intro k x i v h;cases h
 |cons y l A=>
  intro k x i v h q;rw[List.flatMap_cons];cases k with
  |zero=>
   cases h;rw[Nat.zero_mul,Nat.zero_add,List.getElem?_append_left (by rw[List.getElem?_eq_some_iff] at q;exact q.1)];exact q
  |succ k=>
   rw[List.getElem?_append_right (by rw[w,Nat.succ_mul];omega),w,show (k+1)*m+i-m=k*m+i by rw[Nat.succ_mul];omega];exact A k x i v h q
def zc6 (left:Int) (c:Nat) (e:Ending):Prop:=∃z:Int,e= .returned (.int .i64 z)/\ -1<=z/\z<=left/\(0<=z->z+(c:Int)=left)
theorem zrP (h:w.cell? (C.add 0)=some S):C=⟨C.block,C.off,none⟩/\C.block<w.heap.size:=by
 have H:C.add 0=C:=by unfold Addr.add;simp
 rw[H] at h;obtain⟨b,I,q⟩:=C;have J:q=none:=by simpa using World.cell?_spot h
 subst J;refine⟨rfl,?_⟩;show b<_;rcases Nat.lt_or_ge b w.heap.size with A|A
 ·exact A
 ·have K:w.heap[b]? =none:=Array.getElem?_eq_none A;simp[World.cell?,K] at h
theorem zrQ (h:C=⟨C.block,C.off,none⟩) (k:Nat):C.add k=⟨C.block,C.off+k,none⟩:=by
 obtain⟨b,w,q⟩:=C;simp only[Addr.mk.injEq,true_and] at h;subst h;unfold Addr.add
 split
 ·rename_i A
  rw[A,Nat.add_zero]
 ·rfl
theorem zeu {H:Type} {enc:TypeId×Value->H} {P:Program} {V:Nat} {I:Nat->Bool} {J:Bool} {α:Type} (x0:α) {f:α->List Value} {m:Nat} (ab:0<m) (hf: ∀x,(f x).length=m) {Q:α->Prop} {t e:TypeId} {z:DataW H×List MemPlace} (ht:P.underlying t=some (.slice e)) (ce:P.cellsOf e=m) (hd: ∀n cs y,DataW.trod enc P w g I J n e cs=some y->cs.length=m->∃x,cs=f x/\Q x) (h:DataW.trod enc P w g I J V t [S]=some z): ∃(a:Option Addr) (L:Nat) (l:List α),S= .slice a l.length L/\l.length<=maxLen/\RowAt w a f m l/\∀x∈l,Q x:=by
 haveI:Inhabited α:=⟨x0⟩
 rcases open_slice ht h with ⟨N,_⟩|⟨a,A,L,mm,n,D,Pl,N,hb,hl,hm,aa,_,U⟩
 ·simp only[List.cons.injEq,and_true] at N;exact⟨none,0,[],N,Nat.zero_le _,.inl rfl,fun x U=>by cases U⟩
 ·simp only[List.cons.injEq,and_true] at N;have ad:A<=mm:=by rw[aa];split<;>omega
  have O: ∀i,i<A->∃x:α,Q x/\∀j S,(f x)[j]? =some S->w.cell? (a.add (i*m+j))=some S:=by
   intro i hi;obtain⟨ac,h1,h2⟩:=U i (by omega);rw[ce] at h1;obtain⟨_,q,M⟩:=World.cells?_some h1;obtain⟨x,rfl,hq⟩:=hd _ _ _ h2 q;refine⟨x,hq,fun j S Z=>?_⟩;have Y:j<m:=by have:=(List.getElem?_eq_some_iff.1 Z).1;rw[hf] at this;exact this
   have:=M j (by omega);rw[add_add] at this;rw[this];exact Z
  obtain⟨s,hg⟩:=choose_lt O;have q:((List.range A).map s).length=A:=by simp
  refine⟨some a,L,(List.range A).map s,by rw[q];exact N,by rw[q];omega,?_,?_⟩
  ·by_cases hz:A=0
   ·exact .inl (by rw[hz];rfl)
   ·have K: ∃v0,w.cell? (a.add 0)=some v0:=by
     have:=(hg 0 (by omega)).2 0 ((f (s 0))[0]'(by rw[hf];exact ab)) (gE _);rw[Nat.zero_mul] at this;exact⟨_,this⟩
    obtain⟨v0,K⟩:=K;have ha:=zrP K;refine .inr ⟨a.block,a.off,by rw[<-ha.1],ha.2,fun j x Y i S Z=>?_⟩;have X:j<A:=by have:=(List.getElem?_eq_some_iff.1 Y).1;rw[q] at this;exact this
    rw[List.getElem?_map,List.getElem?_range X] at Y;cases Y;have hc:=(hg j X).2 i S Z;rw[zrQ ha.1] at hc;rw[Nat.add_assoc];exact hc
  ·intro x U;obtain⟨i,hi,rfl⟩:=List.mem_map.1 U;exact (hg i (List.mem_range.1 hi)).1
def zmE (c:BA0):Nat->List BA0
 |0=>[]
 |k+1=>(if bt c (k+1)=47 then [c.extract 0 (k+1)] else [])++zmE c k
def upC (c:BA0):List BA0:=zmE c (c.size-1)++if 1<c.size then [{data:=#[47]}] else []
def upL (p:BA0):List BA0:=upC (zaR p)
theorem zed {p:Prop} (h:p):Hid p:=h
