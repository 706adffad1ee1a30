/- Facts and walks. -/
import Derived.WalkKit
import Derived.PlainAid
import Derived.Laws.BytesArg
import Derived.Lib.Strings
import Derived.Deep.RegionLaw
import Derived.Deep.Slices
import Derived.OpenShut
import Derived.Below
namespace Go.Proofs.YtgcbmogmniahjaaGreat
open Nat (le_refl lt_or_ge lt_irrefl le_trans add_mul)
open List (getElem?_eq_getElem replicate drop_eq_getElem_cons map_cons drop_zero sum_cons)
abbrev Bw (w:Go.World):=Go.RowKit.Below w.heap.size w
theorem bA0 {w:Go.World} {o:Go.Obj}:Go.RowKit.Below w.heap.size w (w.alloc o):=(Go.RowKit.Below.refl _ _).alloc (Nat.le_refl _) _
open Go.RowKit Go.PlainAid
abbrev BA:=ByteArray
theorem aLt {α : Type _} {a : Array α} {i : Nat} {b : α} (h : a[i]? =some b) : i<a.size:=(Array.getElem?_eq_some_iff.1 h).1
def inB (a b c:Int):Bool:=decide (b<=a)&&decide (a<=c)
theorem zjq {a b c:Int} (h:b<=a) (k:a<=c):inB a b c=true:=by simp[inB,h,k]
theorem zhw {a b c:Int} (h: ¬(b<=a/\a<=c)):inB a b c=false:=by
 simp only[inB,Bool.and_eq_false_iff,decide_eq_false_iff_not];omega
theorem zi {a b:Bool} (h:a=b):Ending.returned (.bool a)= .returned (.bool b):=by rw[h]
theorem zbG {k:IntKind} {a b:Int} (h:a=b):Ending.returned (.int k a)= .returned (.int k b):=by rw[h]
theorem za4 {a b:BA} (h:a=b):Ending.returned (.string a)= .returned (.string b):=by rw[h]
theorem zdO {a b:Int} {c d:Bool} (h:a=b) (k:c=d):Ending.returned (.tuple #[.int .i64 a,.bool c])= .returned (.tuple #[.int .i64 b,.bool d]):=by rw[h,k]
def zjr (s:BA):Nat->Int
 |0=>0
 |k+1=>zjr s k*256+bt s k
def zn6 (s:BA) (n:Int):Bool:=inB n 1 7&&decide (n<=s.size)
def rfV (s:BA) (n:Int):Int:=if zn6 s n then zjr s n.toNat else 0
abbrev sNone:BA:={data:=#[]}
theorem zg (w:World) (o:Obj):(w.alloc o).heap.size=w.heap.size+1:=by show (w.heap.push _).size=_;simp
theorem _root_.Go.RowKit.Hid.o {p:Prop} (h:Go.RowKit.Hid p):p:=h
theorem zc {p:Prop} (h:p):Hid p:=h
theorem zdk {α:Type} {l:List α} {j:Nat} {x:α} (h:l[j]? =some x):l.take (j+1)=l.take j++[x]:=by
 rw[List.take_add_one,h];rfl
def zcQ (w:World) (base:Nat) (e:TypeId) (v:Value) (n:Nat) (xs:List Int):Prop:=w.ownsRow base e 1 v n (xs.map (Value.int .u8))
theorem zjs {P:Program} {w:World} {src dst e:TypeId} (J:P.underlying src=some (.slice e)) (I:P.underlying e=some (.int .u8)) (H:P.underlying dst=some .string)
  {base n:Nat} {v:Value} {xs:List Int} (h:zcQ w base e v n xs):(convert src dst v).run P w= .ok (.string (strOfNums xs)) w:=by
 obtain⟨A,O⟩:=h;rw[List.length_map,Nat.mul_one] at A;rcases O with ⟨rfl,rfl⟩|⟨g,q,D,rfl,M,N,U,K,E,L⟩
 ·obtain rfl:=List.length_eq_zero_iff.1 A;exact run_convert_bytes_nil w src e J I 0 0 dst H
 ·refine run_convert_bytes_arg w src e J I g 0 n q xs A (fun i V=>?_) dst H;have z:w.ownsRow base e 1 (.slice (some ⟨g,0,none⟩) n q) n (xs.map (Value.int .u8)):=⟨by simpa using A,.inr ⟨g,q,D,rfl,M,N,U,K,E,L⟩⟩;have:=z.cellAt i (by omega);rw[Nat.zero_add,this];simp[List.getD,getElem?_eq_getElem (show i<xs.length by omega)]
theorem zhx {P:Program} {src dst e:TypeId} (z:P.underlying src=some (.slice e)) (q:P.underlying e=some (.int .u8)) (h:P.underlying dst=some .string)
  (w:World) (x:Int):(convert src dst (.slice (some ⟨w.heap.size,0,none⟩) 1 1)).run P (w.alloc (.cells #[.int .u8 x] e))= .ok (.string (strOfNums [x])) (w.alloc (.cells #[.int .u8 x] e)):=by
 refine run_convert_bytes_arg _ src e z q w.heap.size 0 1 1 [x] rfl (fun i A=>?_) dst h;obtain rfl:i=0:=by omega
 rw[World.cell?_alloc_new];rfl
theorem zn7 (xs h:List Int):strOfNums xs++strOfNums h=strOfNums (xs++h):=by
 unfold strOfNums;rw[ByteArray.mk_append_mk,List.map_append]
theorem zgg (x:Int) (h:List Int):strOfNums [x]++strOfNums h=strOfNums (x::h):=zn7 [x] h
def zxS (L:List Int) (k:Nat):List Int:=L.take k++replicate (L.length-k) 0
def zcR (L:List Int) (k:Nat):List Int:=replicate (L.length-k) 0++L.drop (L.length-k)
theorem zjt (L:List Int):zcR L 0=replicate L.length 0:=by simp[zcR]
theorem zju (L:List Int) (k:Nat) (x:Int) (h:k<L.length) (w:L[L.length-1-k]? =some x):(zcR L k).set (L.length-1-k) x=zcR L (k+1):=by
 have A:replicate (L.length-k) (0:Int)=replicate (L.length-(k+1)) 0++[0]:=by
  rw[show L.length-k=(L.length-(k+1))+1 from by omega,List.replicate_succ']
 have z:L.drop (L.length-(k+1))=x::L.drop (L.length-k):=by
  have e:L.length-(k+1)=L.length-1-k:=by omega
  rw[e];have q:L.length-1-k<L.length:=by omega
  rw[drop_eq_getElem_cons q];rw[getElem?_eq_getElem q] at w;simp only[Option.some.injEq] at w;rw[w,show L.length-1-k+1=L.length-k from by omega]
 unfold zcR;rw[A,z,List.append_assoc,List.set_append_right _ _ (by simp;omega),List.length_replicate,show L.length-1-k-(L.length-(k+1))=0 from by omega];rfl
theorem zhy {w:World} {B g n q:Nat} {e:TypeId} {L:List Int} (h:zcQ w B e (.slice (some ⟨g,0,none⟩) n q) n L) (j:Nat) (x:Int):
  zcQ (w.setCell ⟨g,j,none⟩ (.int .u8 x)) B e (.slice (some ⟨g,0,none⟩) n q) n (L.set j x):=by
 unfold zcQ at h ⊢;rw[List.map_set];exact (h.stored j (.int .u8 x)).1
theorem zhz {w:World} {B g n q:Nat} {e:TypeId} {L:List Int} (h:zcQ w B e (.slice (some ⟨g,0,none⟩) n q) n L) (j:Nat) (A:j<n): ∃v,w.cell? ⟨g,j,none⟩=some v:=by
 unfold zcQ at h;have z:=h.1;rw[List.length_map,Nat.mul_one] at z;rw[h.cellAt j (by omega)];simp[getElem?_eq_getElem (show j<L.length by omega)]
theorem zh0 {w:World} {B g n q:Nat} {e:TypeId} {L:List Int} (h:zcQ w B e (.slice (some ⟨g,0,none⟩) n q) n L) (j:Nat):w.frozen? ⟨g,j,none⟩=false:=World.ownsRow.frozenAt h j
def dl (n:Int):Nat->List Int
 |0=>[]
 |k+1=>(n/2^(8*k)%256)::dl n k
def zn8 (n m:Int):Bool:=inB m 1 7&&decide (0<=n)&&decide (n/2^(8*m.toNat)=0)
def fxL (n m:Int):List Int:=if zn8 n m then dl n m.toNat else []
def bsl (s:BA):Nat->Nat->List Int
 |_,0=>[]
 |i,m+1=>bt s i::bsl s (i+1) m
theorem zn9 (s:BA) (i m:Nat):(bsl s i m).length=m:=by
 induction m generalizing i with
 |zero=>rfl
 |succ m h=>simp[bsl,h]
theorem znA (s:BA) (i:Nat) (h:i<s.data.toList.length):UInt8.ofNat (bt s i).toNat=s.data.toList[i]:=by
 have q:i<s.size:=by simpa using h
 rw[<-get_bt s i q,Int.toNat_natCast,UInt8.ofNat_toNat];rfl
theorem znB (s:BA) (i m:Nat) (h:i+m<=s.size):(bsl s i m).map (fun n=>UInt8.ofNat n.toNat)=(s.data.toList.drop i).take m:=by
 induction m generalizing i with
 |zero=>simp[bsl]
 |succ m w=>
  have q:i<s.data.toList.length:=by rw[Array.length_toList];exact Nat.lt_of_lt_of_le (show i<i+(m+1) by omega) h
  rw[bsl,map_cons,w (i+1) (by omega),drop_eq_getElem_cons q,List.take_succ_cons,znA s i q]
theorem zjv (s:BA) (k:Nat) (h:k<=s.size):s.extract 0 k=strOfNums (bsl s 0 k):=by
 have e:(s.extract 0 k).data.toList=(strOfNums (bsl s 0 k)).data.toList:=by
  rw[Lib.extract_data,strOfNums_data,znB s 0 k (by omega),Nat.sub_zero]
 have q:(s.extract 0 k).data=(strOfNums (bsl s 0 k)).data:=by
  rw[<-Array.toArray_toList (xs:=(s.extract 0 k).data),e,Array.toArray_toList]
 have w: ∀a b:BA,a.data=b.data->a=b:=by rintro⟨a⟩ ⟨b⟩ h;cases h;rfl
 exact w _ _ q
theorem zgh {a b:BA} (h:a.data.toList=b.data.toList):a=b:=by
 obtain⟨⟨a⟩⟩:=a;obtain⟨⟨b⟩⟩:=b;simp only at h;rw[h]
theorem zei (a b:BA):(a.toList==b.toList)=true↔a=b:=by
 rw[beq_iff_eq,Lib.toList_data,Lib.toList_data];exact⟨zgh,fun h=>by rw[h]⟩
theorem znC (s:BA):s=strOfNums (bsl s 0 s.size):=by
 rw[<-zjv s s.size (le_refl _)];refine zgh ?_;rw[Lib.extract_data,drop_zero,Nat.sub_zero,List.take_of_length_le];rw[Array.length_toList];exact le_refl _
theorem zd8 (s:BA) (k:Nat):bt s k=(s.data.toList.map (fun b=>(b.toNat:Int))).getD k 0:=by
 unfold bt;by_cases h:k<s.size
 ·rw[dif_pos h];have q:k<s.data.toList.length:=by rw[Array.length_toList];exact h
  simp only[List.getD,List.getElem?_map,getElem?_eq_getElem q,Option.map_some,Option.getD_some];rfl
 ·rw[dif_neg h];have q:s.data.toList.length<=k:=by rw[Array.length_toList];exact Nat.le_of_not_lt h
  simp[List.getD,List.getElem?_eq_none q]
theorem zgi (a b:BA):(a++b).data.toList=a.data.toList++b.data.toList:=by
 obtain⟨⟨a⟩⟩:=a;obtain⟨⟨b⟩⟩:=b;rw[ByteArray.mk_append_mk]
def za5 (c:Int) (scr:Bool):Bool:=decide (97<=c/\c<=122)||decide (65<=c/\c<=90)||decide (c=95)||(scr&&decide (c=36))
def zL (c:Int):Bool:=decide (48<=c/\c<=57)
def zN (scr:Bool) (c:Int):Bool:=za5 c scr||zL c
def zb3 (c:Int):Bool:=decide (c≠10)
abbrev zcF (c:Int):Prop:=c=9∨c=10∨c=13∨c=32
abbrev zbr (c:Int):Prop:=c=123∨c=125∨c=40∨c=41∨c=44∨c=59∨c=61∨c=46∨c=42∨c=43∨c=45
abbrev zbH (c:Int):Prop:=32<=c/\c<=126/\c≠34/\c≠92
theorem zej {c:Int} {h:Bool}:za5 c h=true↔(97<=c/\c<=122)∨(65<=c/\c<=90)∨c=95∨(h=true/\c=36):=by simp[za5,or_assoc]
theorem zcS {c:Int}:zL c=true↔48<=c/\c<=57:=by simp[zL]
def za6 (p:Int->Bool) (s:BA) (a e:Nat):Prop:=a<=e/\e<=s.size/\(∀j,a<=j->j<e->p (bt s j)=true)/\(e<s.size->p (bt s e)=false)
theorem zfw {p:Int->Bool} {s:BA} {a q w:Nat} (I:za6 p s a q) (E:za6 p s a w):q=w:=by
 obtain⟨D,L,K,J⟩:=I;obtain⟨H,M,z,A⟩:=E;rcases Nat.lt_trichotomy q w with h|h|h
 ·have:=z q D h;rw[J (by omega)] at this;cases this
 ·exact h
 ·have:=K w H h;rw[A (by omega)] at this;cases this
def zbI (s:BA) (a:Nat):Nat->Int
 |0=>0
 |k+1=>zbI s a k*10+(bt s (a+k)-48)
def zbc (s:BA) (a:Nat) (scr:Bool) (n:Int) (e:Nat):Prop:=
 za6 zL s a e/\a<e/\(e=a+1∨bt s a≠48)/\n=zbI s a (e-a)/\n<=1000000/\(e<s.size->za5 (bt s e) scr=false)
theorem znD {s:BA} {a:Nat} {h:Bool} {z D:Int} {q E:Nat} (A:zbc s a h z q) (w:zbc s a h D E):z=D/\q=E:=by
 have H:=zfw A.1 w.1;subst H;exact⟨A.2.2.2.1.trans w.2.2.2.1.symm,rfl⟩
theorem zjw {s:BA} {a:Nat} (k m:Nat) (q: ∀j,j<m->48<=bt s (a+j)) (H:k<=m):0<=zbI s a k/\zbI s a k<=zbI s a m:=by
 have E: ∀m,(∀j,j<m->48<=bt s (a+j))->0<=zbI s a m:=by
  intro m
  induction m with
  |zero=>intro _;exact Int.le_refl _
  |succ m w=>
   intro h;have z:=w (fun j A=>h j (by omega));have D:=h m (by omega);show 0<=zbI s a m*10+(bt s (a+m)-48);omega
 induction m with
 |zero=>
  obtain rfl:k=0:=by omega
  exact⟨Int.le_refl _,Int.le_refl _⟩
 |succ m w=>
  by_cases e:k=m+1
  ·subst e;exact⟨E _ q,Int.le_refl _⟩
  ·obtain⟨z,D⟩:=w (fun j A=>q j (by omega)) (by omega);have I:=q m (by omega);refine⟨z,?_⟩;show _<=zbI s a m*10+(bt s (a+m)-48);omega
def zb4 (s:BA) (a e:Nat):Prop:=a+2<=e/\e<=s.size/\e<=a+42/\bt s (e-1)=34/\∀j,a<j->j+1<e->zbH (bt s j)
theorem znE {s:BA} {a q w:Nat} (H:zb4 s a q) (E:zb4 s a w):q=w:=by
 obtain⟨L,K,O,I,D⟩:=H;obtain⟨M,N,J,A,z⟩:=E;rcases Nat.lt_trichotomy q w with h|h|h
 ·exact absurd I (z (q-1) (by omega) (by omega)).2.2.1
 ·exact h
 ·exact absurd A (D (w-1) (by omega) (by omega)).2.2.1
structure Tk where
 kind:Int
 text:BA
 num:Int
 pos:Nat
def Tok (s:BA) (scr:Bool) (a:Nat) (t:Tk) (e:Nat):Prop:=
 (za5 (bt s a) scr=true/\za6 (zN scr) s a e/\t=⟨1,s.extract a e,0,a⟩)∨(∃n,zL (bt s a)=true/\zbc s a scr n e/\t=⟨2,{data:=#[]},n,a⟩)∨(bt s a=34/\zb4 s a e/\t=⟨3,s.extract (a+1) (e-1),0,a⟩)∨(zbr (bt s a)/\t=⟨4,s.extract a (a+1),0,a⟩/\e=a+1)
theorem Tok.name {s:BA} {q:Bool} {a e:Nat} (h:za5 (bt s a) q=true) (w:za6 (zN q) s a e):Tok s q a ⟨1,s.extract a e,0,a⟩ e:=.inl ⟨h,w,rfl⟩
theorem Tok.num {s:BA} {q:Bool} {a e:Nat} {n:Int} (h:zL (bt s a)=true) (w:zbc s a q n e):Tok s q a ⟨2,{data:=#[]},n,a⟩ e:=.inr (.inl ⟨n,h,w,rfl⟩)
theorem Tok.str {s:BA} {q:Bool} {a e:Nat} (h:bt s a=34) (w:zb4 s a e):Tok s q a ⟨3,s.extract (a+1) (e-1),0,a⟩ e:=.inr (.inr (.inl ⟨h,w,rfl⟩))
theorem Tok.sign {s:BA} {q:Bool} {a:Nat} (h:zbr (bt s a)):Tok s q a ⟨4,s.extract a (a+1),0,a⟩ (a+1):=.inr (.inr (.inr ⟨h,rfl,rfl⟩))
theorem Tok.elim {s:BA} {scr:Bool} {a:Nat} {motive:(t:Tk)->(e:Nat)->Tok s scr a t e->Prop} {t:Tk} {e:Nat} (h:Tok s scr a t e) (name: ∀{e:Nat} (h:za5 (bt s a) scr=true) (he:za6 (zN scr) s a e),motive _ e (.name h he)) (num: ∀{n:Int} {e:Nat} (h:zL (bt s a)=true) (he:zbc s a scr n e),motive _ e (.num h he)) (str: ∀{e:Nat} (h:bt s a=34) (he:zb4 s a e),motive _ e (.str h he)) (sign: ∀(h:zbr (bt s a)),motive _ _ (.sign h)):motive t e h:=by
 rcases h with ⟨h1,h2,rfl⟩|⟨n,h1,h2,rfl⟩|⟨h1,h2,rfl⟩|⟨h1,rfl,rfl⟩
 ·exact name h1 h2
 ·exact num h1 h2
 ·exact str h1 h2
 ·exact sign h1
theorem zeG {c:Int} {q:Bool} (h:za5 c q=true):zL c=false/\c≠34/\¬zbr c:=by
 rw[zej] at h;refine⟨decide_eq_false (by omega),by omega,by unfold zbr;omega⟩
theorem zeH {c:Int} (h:zL c=true):c≠34/\¬zbr c:=by
 rw[zcS] at h;exact⟨by omega,by unfold zbr;omega⟩
theorem znF {s:BA} {D:Bool} {a:Nat} {I H:Tk} {J K:Nat} (L:Tok s D a I J) (E:Tok s D a H K):I=H/\J=K:=by
 cases L using Tok.elim with
 |name h A=>
  have z:=zeG h;cases E using Tok.elim with
  |name q w=>have:=zfw A w;subst this;exact⟨rfl,rfl⟩
  |num q w=>rw[z.1] at q;cases q
  |str q w=>exact absurd q z.2.1
  |sign q=>exact absurd q z.2.2
 |num h A=>
  have z:=zeH h;cases E using Tok.elim with
  |name q w=>rw[(zeG q).1] at h;cases h
  |num q w=>obtain⟨rfl,rfl⟩:=znD A w;exact⟨rfl,rfl⟩
  |str q w=>exact absurd q z.1
  |sign q=>exact absurd q z.2
 |str h A=>
  cases E using Tok.elim with
  |name q w=>exact absurd h (zeG q).2.1
  |num q w=>exact absurd h (zeH q).1
  |str q w=>have:=znE A w;subst this;exact⟨rfl,rfl⟩
  |sign q=>rw[h] at q;unfold zbr at q;omega
 |sign h=>
  cases E using Tok.elim with
  |name q w=>exact absurd h (zeG q).2.2
  |num q w=>exact absurd h (zeH q).2
  |str q w=>rw[q] at h;unfold zbr at h;omega
  |sign q=>exact⟨rfl,rfl⟩
theorem zeI {s:BA} {w:Bool} {a:Nat} {t:Tk} {e:Nat} (z:a<s.size) (h:Tok s w a t e):a<e/\e<=s.size/\t.pos=a:=by
 cases h using Tok.elim with
 |name h q=>
  refine⟨?_,q.2.1,rfl⟩;rcases lt_or_ge a e with k|k
  ·exact k
  ·have A:e=a:=by have:=q.1;omega
   subst A;have:=q.2.2.2 z;simp[zN,h] at this
 |num h q=>exact⟨q.2.1,q.1.2.1,rfl⟩
 |str h q=>exact⟨by have:=q.1;omega,q.2.1,rfl⟩
 |sign h=>exact⟨by omega,by omega,rfl⟩
abbrev zc1 (s:BA) (a:Nat):Prop:=bt s a=47/\a+1<s.size/\bt s (a+1)=47
def znG (s:BA) (P:Nat->Nat->Prop):Prop:=P s.size s.size/\(∀a,a<s.size->¬zcF (bt s a)->¬zc1 s a->P a a)/\(∀a b,a<s.size->zcF (bt s a)->P (a+1) b->P a b)/\∀a c b,a<s.size->zc1 s a->za6 zb3 s a c->P c b->P a b
def Skip (s:BA) (a b:Nat):Prop:=∀P,znG s P->P a b
theorem Skip.done {s:BA}:Skip s s.size s.size:=fun _ k=>k.1
theorem Skip.stop {s:BA} {a:Nat} (h:a<s.size) (q: ¬zcF (bt s a)) (w: ¬zc1 s a):Skip s a a:=fun _ k=>k.2.1 a h q w
theorem Skip.blank {s:BA} {a b:Nat} (h:a<s.size) (q:zcF (bt s a)) (r:Skip s (a+1) b):Skip s a b:=fun P k=>k.2.2.1 a b h q (r P k)
theorem Skip.comment {s:BA} {a c b:Nat} (h:a<s.size) (q:zc1 s a) (w:za6 zb3 s a c) (r:Skip s c b):Skip s a b:=fun P k=>k.2.2.2 a c b h q w (r P k)
theorem Skip.ind {s:BA} {motive:(a b:Nat)->Skip s a b->Prop} {a b:Nat} (h:Skip s a b) (done:motive _ _ .done) (stop: ∀{a:Nat} (h:a<s.size) (h1: ¬zcF (bt s a)) (h2: ¬zc1 s a),motive a a (.stop h h1 h2)) (blank: ∀{a b:Nat} (h:a<s.size) (h1:zcF (bt s a)) (r:Skip s (a+1) b),motive _ _ r->motive a b (.blank h h1 r)) (comment: ∀{a c b:Nat} (h:a<s.size) (h1:zc1 s a) (hc:za6 zb3 s a c) (r:Skip s c b),motive _ _ r->motive a b (.comment h h1 hc r)):motive a b h:=
 (h (fun a b=>∃k,motive a b k) ⟨⟨_,done⟩,fun _ h h1 h2=>⟨_,stop h h1 h2⟩,fun _ _ h h1 ⟨r,k⟩=>⟨_,blank h h1 r k⟩,fun _ _ _ h h1 hc ⟨r,k⟩=>⟨_,comment h h1 hc r k⟩⟩).2
theorem Skip.elim {s:BA} {motive:(a b:Nat)->Skip s a b->Prop} {a b:Nat} (h:Skip s a b) (done:motive _ _ .done) (stop: ∀{a:Nat} (h:a<s.size) (h1: ¬zcF (bt s a)) (h2: ¬zc1 s a),motive a a (.stop h h1 h2)) (blank: ∀{a b:Nat} (h:a<s.size) (h1:zcF (bt s a)) (r:Skip s (a+1) b),motive a b (.blank h h1 r)) (comment: ∀{a c b:Nat} (h:a<s.size) (h1:zc1 s a) (hc:za6 zb3 s a c) (r:Skip s c b),motive a b (.comment h h1 hc r)):motive a b h:=
 h.ind done stop (fun h h1 r _=>blank h h1 r) (fun h h1 hc r _=>comment h h1 hc r)
theorem zjx {s:BA} {a:Nat} (h:zc1 s a): ¬zcF (bt s a):=by rw[h.1];unfold zcF;omega
theorem zjy {s:BA} {a E b2:Nat} (H:Skip s a E):Skip s a b2->E=b2:=by
 induction H using Skip.ind with
 |done=>
  intro q;generalize J:s.size=x at q;cases q using Skip.elim with
  |done=>rfl
  |stop h _ _=>omega
  |blank h _ _=>omega
  |comment h _ _ _=>omega
 |stop h w z=>
  intro q;cases q using Skip.elim with
  |done=>rfl
  |stop _ _ _=>rfl
  |blank _ k _=>exact absurd k w
  |comment _ k _ _=>exact absurd k z
 |blank h k _ A=>
  intro q;cases q using Skip.elim with
  |done=>exact absurd h (lt_irrefl _)
  |stop _ w _=>exact absurd k w
  |blank _ _ r=>exact A r
  |comment _ w _ _=>exact absurd k (zjx w)
 |comment h k I _ A=>
  intro q;cases q using Skip.elim with
  |done=>exact absurd h (lt_irrefl _)
  |stop _ _ z=>exact absurd k z
  |blank _ w _=>exact absurd w (zjx k)
  |comment _ _ D r=>have:=zfw I D;subst this;exact A r
theorem zh1 {s:BA} {a b:Nat} (h:Skip s a b):a<=b/\b<=s.size:=by
 induction h using Skip.ind with
 |done=>exact⟨le_refl _,le_refl _⟩
 |stop h _ _=>exact⟨le_refl _,by omega⟩
 |blank h _ _ q=>exact⟨by omega,q.2⟩
 |comment h _ w _ q=>exact⟨by have:=w.1;omega,q.2⟩
def LxK (s:BA) (scr:Bool) (P:Nat->Nat->Except Nat (List Tk)->Prop):Prop:=(∀n,P s.size n (.ok []))/\(∀a n,a<s.size->(4000<=n∨∀t e,¬Tok s scr a t e)->P a n (.error a))/\∀a n e b t r,a<s.size->n<4000->Tok s scr a t e->Skip s e b->P b (n+1) r->P a n (r.map (t:: ·))
def Lx (s:BA) (scr:Bool) (a n:Nat) (r:Except Nat (List Tk)):Prop:=∀P,LxK s scr P->P a n r
theorem Lx.done {s:BA} {h:Bool} {n:Nat}:Lx s h s.size n (.ok []):=fun _ k=>k.1 n
theorem Lx.bad {s:BA} {q:Bool} {a n:Nat} (h:a<s.size) (w:4000<=n∨∀t e,¬Tok s q a t e):Lx s q a n (.error a):=fun _ k=>k.2.1 a n h w
theorem Lx.tok {s:BA} {q:Bool} {a n e b:Nat} {t:Tk} {r:Except Nat (List Tk)} (h:a<s.size) (D:n<4000) (z:Tok s q a t e) (A:Skip s e b) (w:Lx s q b (n+1) r):Lx s q a n (r.map (t:: ·)):=fun P k=>k.2.2 a n e b t r h D z A (w P k)
theorem Lx.ind {s:BA} {scr:Bool} {motive:(a n:Nat)->(r:Except Nat (List Tk))->Lx s scr a n r->Prop} {a n:Nat} {r:Except Nat (List Tk)} (h:Lx s scr a n r) (done: ∀{n:Nat},motive _ n _ .done) (bad: ∀{a n:Nat} (h:a<s.size) (h1:4000<=n∨∀t e,¬Tok s scr a t e),motive a n _ (.bad h h1)) (tok: ∀{a n e b:Nat} {t:Tk} {r:Except Nat (List Tk)} (h:a<s.size) (hn:n<4000) (ht:Tok s scr a t e) (hs:Skip s e b) (hr:Lx s scr b (n+1) r),motive _ _ _ hr->motive a n _ (.tok h hn ht hs hr)):motive a n r h:=
 (h (fun a n r=>∃k,motive a n r k) ⟨fun _=>⟨_,done⟩,fun _ _ h h1=>⟨_,bad h h1⟩,fun _ _ _ _ _ _ h hn ht hs ⟨hr,k⟩=>⟨_,tok h hn ht hs hr k⟩⟩).2
theorem Lx.elim {s:BA} {scr:Bool} {motive:(a n:Nat)->(r:Except Nat (List Tk))->Lx s scr a n r->Prop} {a n:Nat} {r:Except Nat (List Tk)} (h:Lx s scr a n r) (done: ∀{n:Nat},motive _ n _ .done) (bad: ∀{a n:Nat} (h:a<s.size) (h1:4000<=n∨∀t e,¬Tok s scr a t e),motive a n _ (.bad h h1)) (tok: ∀{a n e b:Nat} {t:Tk} {r:Except Nat (List Tk)} (h:a<s.size) (hn:n<4000) (ht:Tok s scr a t e) (hs:Skip s e b) (hr:Lx s scr b (n+1) r),motive a n _ (.tok h hn ht hs hr)):motive a n r h:=
 h.ind done bad (fun h hn ht hs hr _=>tok h hn ht hs hr)
theorem znH {s:BA} {w:Bool} {a n:Nat} {H D:Except Nat (List Tk)} (J:Lx s w a n H):Lx s w a n D->H=D:=by
 induction J using Lx.ind generalizing D with
 |done=>
  intro q;generalize M:s.size=x at q;cases q using Lx.elim with
  |done=>rfl
  |bad h _=>omega
  |tok h _ _ _ _=>omega
 |bad h k=>
  intro q;cases q using Lx.elim with
  |done=>exact absurd h (lt_irrefl _)
  |bad _ _=>rfl
  |tok _ L z _ _=>exact k.elim (fun k=>by omega) fun k=>absurd z (k _ _)
 |tok h L z K _ I=>
  intro q;cases q using Lx.elim with
  |done=>exact absurd h (lt_irrefl _)
  |bad _ k=>exact k.elim (fun k=>by omega) fun k=>absurd z (k _ _)
  |tok _ _ A E r=>
   obtain⟨rfl,rfl⟩:=znF z A;have:=zjy K E;subst this;rw[I r]
def zal (s:BA) (scr:Bool) (r:Except Nat (List Tk)):Prop:=∃a,Skip s 0 a/\Lx s scr a 0 r
theorem znI {s:BA} {h:Bool} {w q:Except Nat (List Tk)} (H:zal s h w) (A:zal s h q):w=q:=by
 obtain⟨a,I,D⟩:=H;obtain⟨b,z,E⟩:=A;have:=zjy I z;subst this;exact znH D E
structure Ex where
 kind:Int
 num:Int
 name:BA
 field:BA
 l:Int
 r:Int
structure Sm where
 kind:Int
 name:BA
 expr:Int
structure Im where
 spec:BA
 first:BA
 loc:BA
structure Ep where
 kind:Int
 name:BA
 loc:BA
 spec:BA
structure Cx where
 ts:List Tk
 fin:Nat
 scr:Bool
structure PS where
 pos:Nat
 rq:List BA
 im:List Im
 ep:List Ep
 st:List Sm
 ex:List Ex
 la:List Ep
abbrev PR:=Except Nat PS
abbrev zao:BA:={data:=#[105,109,112,111,114,116]}
abbrev zam:BA:={data:=#[101,120,112,111,114,116]}
abbrev sDefault:BA:={data:=#[100,101,102,97,117,108,116]}
abbrev zH:BA:={data:=#[108,101,116]}
abbrev zW:BA:={data:=#[102,117,110,99,116,105,111,110]}
abbrev zeJ:BA:={data:=#[114,101,116,117,114,110]}
abbrev za1:BA:={data:=#[112,114,105,110,116]}
abbrev zaD:BA:={data:=#[116,104,114,111,119]}
abbrev zbZ:BA:={data:=#[102,97,105,108]}
abbrev zaH:BA:={data:=#[117,110,100,101,102]}
abbrev sAs:BA:={data:=#[97,115]}
abbrev zX:BA:={data:=#[102,114,111,109]}
abbrev zcs:BA:={data:=#[42,100,101,102,97,117,108,116]}
abbrev zp:BA:={data:=#[40]}
abbrev zaA:BA:={data:=#[41]}
abbrev zz:BA:={data:=#[42]}
abbrev zc2:BA:={data:=#[43]}
abbrev zbJ:BA:={data:=#[44]}
abbrev zbs:BA:={data:=#[45]}
abbrev cPoint:BA:={data:=#[46]}
abbrev cSemi:BA:={data:=#[59]}
abbrev cEq:BA:={data:=#[61]}
abbrev zO:BA:={data:=#[123]}
abbrev zb5:BA:={data:=#[125]}
def bd {α β:Type} (x:Except Nat α) (f:α->Except Nat β):Except Nat β:=
 match x with
 | .ok a=>f a
 | .error e=>.error e
theorem zB {α β:Type} (a:α) (f:α->Except Nat β):bd (.ok a) f=f a:=rfl
theorem zeK {α β:Type} (e:Nat) (f:α->Except Nat β):bd (.error e) f= .error e:=rfl
theorem zQ {α β γ:Type} (x:Except Nat α) (f:α->Except Nat β) (g:β->Except Nat γ):bd (bd x f) g=bd x fun a=>bd (f a) g:=by cases x<;>rfl
theorem zai {α β:Type} {x:Except Nat α} {f g:α->Except Nat β} (h: ∀a,x= .ok a->f a=g a):bd x f=bd x g:=by
 cases x with
 |ok a=>exact h a rfl
 |error e=>rfl
theorem zn {α β:Type} {x:Except Nat α} {f:α->Except Nat β} {b:β} (h:bd x f= .ok b): ∃a,x= .ok a/\f a= .ok b:=by
 cases x with
 |ok a=>exact⟨a,rfl,h⟩
 |error e=>cases h
def ze (C:Cx) (i:Nat):Tk:=C.ts.getD i ⟨0,sNone,0,C.fin⟩
def zt (C:Cx) (i:Nat):Nat:=(ze C i).pos
def isT (C:Cx) (i:Nat) (k:Int) (x:BA):Bool:=((ze C i).kind==k)&&((ze C i).text.toList==x.toList)
def adv (q:PS):PS:={q with pos:=q.pos+1}
def zd (C:Cx) (k:Int) (x:BA) (q:PS):PR:=if isT C q.pos k x then .ok (adv q) else .error (zt C q.pos)
def zw (x:BA) (scr:Bool):Bool:=
 x.toList==[105,109,112,111,114,116]||x.toList==[101,120,112,111,114,116]||x.toList==[100,101,102,97,117,108,116]||x.toList==[108,101,116]||x.toList==[102,117,110,99,116,105,111,110]||x.toList==[114,101,116,117,114,110]||x.toList==[112,114,105,110,116]||x.toList==[116,104,114,111,119]
  ||((x.toList==[102,97,105,108]||x.toList==[117,110,100,101,102])&&scr)
def zJ (C:Cx) (i:Nat) (o:Bool):Bool:=((ze C i).kind==1)&&(!zw (ze C i).text C.scr||(o&&((ze C i).text.toList==[100,101,102,97,117,108,116])))
def zm (C:Cx) (o:Bool) (q:PS):Except Nat (PS×BA):=if zJ C q.pos o then .ok (adv q,(ze C q.pos).text) else .error (zt C q.pos)
def zaU (l:List BA) (x:BA):Bool:=l.any fun y=>y.toList==x.toList
def zM (C:Cx) (q:PS):Except Nat (PS×BA):=
 if (ze C q.pos).kind==3 then
  if zaU q.rq (ze C q.pos).text then .ok (adv q,(ze C q.pos).text)
  else if 40<=q.rq.length then .error (zt C q.pos)
  else .ok ({adv q with rq:=q.rq++[(ze C q.pos).text]},(ze C q.pos).text)
 else .error (zt C q.pos)
def zap (C:Cx) (x:Im) (q:PS):PR:=if 40<=q.im.length then .error (zt C (q.pos-1)) else .ok {q with im:=q.im++[x]}
def zq (C:Cx) (x:Ep) (q:PS):PR:=
 if 40<=q.ep.length+q.la.length then .error (zt C (q.pos-1))
 else if x.loc.toList==[42,100,101,102,97,117,108,116] then .ok {q with la:=q.la++[x]} else .ok {q with ep:=q.ep++[x]}
def zaa (C:Cx) (k:Int) (n:BA) (q:PS):PR:=if 80<=q.st.length then .error (zt C (q.pos-1)) else .ok {q with st:=q.st++[⟨k,n,(q.ex.length:Int)-1⟩]}
def zT (C:Cx) (x:Ex) (q:PS):PR:=if 300<=q.ex.length then .error (zt C (q.pos-1)) else .ok {q with ex:=q.ex++[x]}
def zbK (C:Cx) (n:BA) (q:PS):PR:=
 if isT C q.pos 4 zp then bd (bd (zd C 4 zp q) (zd C 4 zaA)) (zT C ⟨3,0,n,sNone,0,0⟩) else zT C ⟨2,0,n,sNone,0,0⟩ q
def zca (C:Cx) (n f:BA) (q:PS):PR:=
 if isT C q.pos 4 zp then bd (bd (zd C 4 zp q) (zd C 4 zaA)) (zT C ⟨5,0,n,f,0,0⟩) else zT C ⟨4,0,n,f,0,0⟩ q
abbrev NT:Type:=Option (Option (Option (Option Unit)))
abbrev NT.sum:NT:=none
abbrev NT.sumT:NT:=some none
abbrev NT.prod:NT:=some (some none)
abbrev NT.prodT:NT:=some (some (some none))
abbrev NT.part:NT:=some (some (some (some ())))
theorem NT.elim {motive:NT->Prop} (nt:NT) (sum:motive .sum) (sumT:motive .sumT) (prod:motive .prod) (prodT:motive .prodT) (part:motive .part):motive nt:=
 match nt with
 |none=>sum
 |some none=>sumT
 |some (some none)=>prod
 |some (some (some none))=>prodT
 |some (some (some (some ())))=>part
def zd9 (C:Cx) (i:Nat):Int:=if isT C i 4 zbs then 7 else 6
def ev (C:Cx):Nat->NT->Nat->PS->PR
 |0,_,_,_=>.error 0
 |f+1,none,d,q=>bd (ev C f .prod d q) (ev C f .sumT d)
 |f+1,some none,d,q=>
  if isT C q.pos 4 zc2||isT C q.pos 4 zbs then
   bd (bd (ev C f .prod d (adv q)) fun q'=>zT C ⟨zd9 C q.pos,0,sNone,sNone,(q.ex.length:Int)-1,(q'.ex.length:Int)-1⟩ q') (ev C f .sumT d)
  else .ok q
 |f+1,some (some none),d,q=>bd (ev C f .part d q) (ev C f .prodT d)
 |f+1,some (some (some none)),d,q=>
  if isT C q.pos 4 zz then
   bd (bd (ev C f .part d (adv q)) fun q'=>zT C ⟨8,0,sNone,sNone,(q.ex.length:Int)-1,(q'.ex.length:Int)-1⟩ q') (ev C f .prodT d)
  else .ok q
 |f+1,some (some (some (some ()))),d,q=>
  if (ze C q.pos).kind==2 then zT C ⟨1,(ze C q.pos).num,sNone,sNone,0,0⟩ (adv q)
  else if isT C q.pos 4 zp then
   if 20<=d then .error (zt C q.pos) else bd (ev C f .sum (d+1) (adv q)) (zd C 4 zaA)
  else if C.scr&&isT C q.pos 1 zaH then zbK C zaH (adv q)
  else bd (zm C false q) fun x=>if isT C x.1.pos 4 cPoint then bd (zm C true (adv x.1)) fun y=>zca C x.2 y.2 y.1 else zbK C x.2 x.1
def nd (C:Cx) (nt:NT) (q:PS):Nat:=
 5*(C.ts.length-q.pos)+match nt with
  | .sum=>3
  | .prod=>2
  |_=>1
def pE (C:Cx) (nt:NT) (d:Nat) (q:PS):PR:=ev C (nd C nt q) nt d q
theorem zek {C:Cx} {i:Nat} (h:C.ts.length<=i):ze C i=⟨0,sNone,0,C.fin⟩:=by simp[ze,List.getD,List.getElem?_eq_none h]
theorem zaB {C:Cx} {i:Nat} {k:Int} {x:BA} (h:isT C i k x=true) (q:k≠0):i<C.ts.length:=by
 rcases lt_or_ge i C.ts.length with g|g
 ·exact g
 ·simp only[isT,zek g,Bool.and_eq_true,beq_iff_eq] at h;exact absurd h.1.symm q
theorem zgj {C:Cx} {i:Nat} {k:Int} (h:((ze C i).kind==k)=true) (q:k≠0):i<C.ts.length:=by
 rcases lt_or_ge i C.ts.length with g|g
 ·exact g
 ·simp only[zek g,beq_iff_eq] at h;exact absurd h.symm q
theorem zfx {C:Cx} {i:Nat} {o:Bool} (h:zJ C i o=true):i<C.ts.length:=by
 simp only[zJ,Bool.and_eq_true] at h;exact zgj h.1 (by decide)
theorem zcb {C:Cx} {k:Int} {x:BA} {q q':PS} (h:zd C k x q= .ok q'):q'=adv q/\isT C q.pos k x=true:=by
 unfold zd at h
 split at h
 ·next g=>exact⟨by cases h;rfl,g⟩
 ·cases h
theorem zb6 {C:Cx} {o:Bool} {q:PS} {y:PS×BA} (h:zm C o q= .ok y):y=(adv q,(ze C q.pos).text)/\zJ C q.pos o=true:=by
 unfold zm at h
 split at h
 ·next g=>exact⟨by cases h;rfl,g⟩
 ·cases h
theorem zb7 {C:Cx} {x:Ex} {q q':PS} (h:zT C x q= .ok q'):q'={q with ex:=q.ex++[x]}/\q.ex.length<300:=by
 unfold zT at h
 split at h
 ·cases h
 ·cases h;exact⟨rfl,by omega⟩
theorem zA (q:PS):(adv q).pos=q.pos+1:=rfl
theorem zjz {C:Cx} {n:BA} {q q':PS} (h:zbK C n q= .ok q'):q.pos<=q'.pos:=by
 unfold zbK at h
 split at h
 ·obtain⟨a,w,z⟩:=zn h;obtain⟨b,D,A⟩:=zn w;obtain⟨rfl,_⟩:=zcb D;obtain⟨rfl,_⟩:=zcb A;obtain⟨rfl,_⟩:=zb7 z;show q.pos<=q.pos+1+1;omega
 ·obtain⟨rfl,_⟩:=zb7 h;exact le_refl _
theorem znJ {C:Cx} {n f:BA} {q q':PS} (h:zca C n f q= .ok q'):q.pos<=q'.pos:=by
 unfold zca at h
 split at h
 ·obtain⟨a,w,z⟩:=zn h;obtain⟨b,D,A⟩:=zn w;obtain⟨rfl,_⟩:=zcb D;obtain⟨rfl,_⟩:=zcb A;obtain⟨rfl,_⟩:=zb7 z;show q.pos<=q.pos+1+1;omega
 ·obtain⟨rfl,_⟩:=zb7 h;exact le_refl _
theorem zfy {C:Cx} (f:Nat): ∀(I:NT) (d:Nat) (q q':PS),ev C f I d q= .ok q'->q.pos<=q'.pos:=by
 induction f with
 |zero=>intro I d q q' h;cases I using NT.elim<;>cases h
 |succ f D=>
  intro I d q q' h;cases I using NT.elim with
  |sum=>
   rw[ev] at h;obtain⟨a,A,w⟩:=zn h;exact le_trans (D _ _ _ _ A) (D _ _ _ _ w)
  |prod=>
   rw[ev] at h;obtain⟨a,A,w⟩:=zn h;exact le_trans (D _ _ _ _ A) (D _ _ _ _ w)
  |sumT=>
   rw[ev] at h
   split at h
   ·obtain⟨a,A,w⟩:=zn h;obtain⟨b,J,H⟩:=zn A;obtain⟨rfl,_⟩:=zb7 H;have E:=D _ _ _ _ J;have K:=D _ _ _ _ w;rw[zA] at E;exact le_trans (by omega:q.pos<=b.pos) K
   ·cases h;exact le_refl _
  |prodT=>
   rw[ev] at h
   split at h
   ·obtain⟨a,A,w⟩:=zn h;obtain⟨b,J,H⟩:=zn A;obtain⟨rfl,_⟩:=zb7 H;have E:=D _ _ _ _ J;have K:=D _ _ _ _ w;rw[zA] at E;exact le_trans (by omega:q.pos<=b.pos) K
   ·cases h;exact le_refl _
  |part=>
   rw[ev] at h
   split at h
   ·obtain⟨rfl,_⟩:=zb7 h;show q.pos<=q.pos+1;omega
   ·split at h
    ·split at h
     ·cases h
     ·obtain⟨a,A,w⟩:=zn h;obtain⟨rfl,_⟩:=zcb w;have E:=D _ _ _ _ A;rw[zA] at E ⊢;omega
    ·split at h
     ·have:=zjz h;rw[zA] at this;omega
     ·obtain⟨y,A,w⟩:=zn h;obtain⟨rfl,_⟩:=zb6 A;simp only at w
      split at w
      ·obtain⟨z,J,H⟩:=zn w;obtain⟨rfl,_⟩:=zb6 J;have:=znJ H;simp only[zA] at this;omega
      ·have:=zjz w;rw[zA] at this;omega
theorem znK {C:Cx} (f:Nat): ∀(g:Nat) (z:NT) (d:Nat) (q:PS),nd C z q<=f->nd C z q<=g->ev C f z d q=ev C g z d q:=by
 induction f with
 |zero=>intro g z d q h;unfold nd at h;cases z using NT.elim<;>simp at h
 |succ f w=>
  intro g z d q I D;obtain⟨g,rfl⟩: ∃L,g=L+1:=by
   match g with
   |0=>unfold nd at D;cases z using NT.elim<;>simp at D
   |g+1=>exact⟨g,rfl⟩
  cases z using NT.elim with
  |sum=>
   simp only[nd] at I D;rw[ev,ev,w g .prod d q (by simp only[nd];omega) (by simp only[nd];omega)];refine zai fun a A=>?_;have:=zfy _ _ _ _ _ A;exact w g .sumT d a (by simp only[nd];omega) (by simp only[nd];omega)
  |prod=>
   simp only[nd] at I D;rw[ev,ev,w g .part d q (by simp only[nd];omega) (by simp only[nd];omega)];refine zai fun a A=>?_;have:=zfy _ _ _ _ _ A;exact w g .prodT d a (by simp only[nd];omega) (by simp only[nd];omega)
  |sumT=>
   simp only[nd] at I D;rw[ev,ev]
   split
   ·next E=>
    have H:q.pos<C.ts.length:=by
     rw[Bool.or_eq_true] at E;exact E.elim (fun k=>zaB k (by decide)) fun k=>zaB k (by decide)
    rw[w g .prod d (adv q) (by simp only[nd,zA];omega) (by simp only[nd,zA];omega)];refine zai fun a A=>?_;obtain⟨b,K,J⟩:=zn A;obtain⟨rfl,_⟩:=zb7 J;have:=zfy _ _ _ _ _ K;rw[zA] at this;exact w g .sumT d _ (by simp only[nd];omega) (by simp only[nd];omega)
   ·rfl
  |prodT=>
   simp only[nd] at I D;rw[ev,ev]
   split
   ·next E=>
    have H:q.pos<C.ts.length:=zaB E (by decide);rw[w g .part d (adv q) (by simp only[nd,zA];omega) (by simp only[nd,zA];omega)];refine zai fun a A=>?_;obtain⟨b,K,J⟩:=zn A;obtain⟨rfl,_⟩:=zb7 J;have:=zfy _ _ _ _ _ K;rw[zA] at this;exact w g .prodT d _ (by simp only[nd];omega) (by simp only[nd];omega)
   ·rfl
  |part=>
   simp only[nd] at I D;rw[ev,ev]
   split
   ·rfl
   ·split
    ·next E=>
     have H:q.pos<C.ts.length:=zaB E (by decide)
     split
     ·rfl
     ·rw[w g .sum (d+1) (adv q) (by simp only[nd,zA];omega) (by simp only[nd,zA];omega)]
    ·rfl
theorem zdl {C:Cx} {f d:Nat} {w:NT} {q:PS} (h:nd C w q<=f):ev C f w d q=pE C w d q:=znK f _ w d q h (le_refl _)
theorem zbk {C:Cx} {w:NT} {d:Nat} {q q':PS} (h:pE C w d q= .ok q'):q.pos<=q'.pos:=zfy _ _ _ _ _ h
theorem zfz {C:Cx} {h:NT} {d:Nat} {q:PS}:pE C h d q=ev C (nd C h q+1) h d q:=(zdl (Nat.le_succ _)).symm
theorem zj0 (C:Cx) (d:Nat) (q:PS):pE C .sum d q=bd (pE C .prod d q) (pE C .sumT d):=by
 rw[zfz,ev,zdl (by simp only[nd];omega)];refine zai fun a h=>?_;have:=zbk h;exact zdl (by simp only[nd];omega)
theorem zj1 (C:Cx) (d:Nat) (q:PS):pE C .prod d q=bd (pE C .part d q) (pE C .prodT d):=by
 rw[zfz,ev,zdl (by simp only[nd];omega)];refine zai fun a h=>?_;have:=zbk h;exact zdl (by simp only[nd];omega)
theorem zf0 (C:Cx) (d:Nat) (q:PS):pE C .sumT d q=
  if isT C q.pos 4 zc2||isT C q.pos 4 zbs then
   bd (bd (pE C .prod d (adv q)) fun q'=>zT C ⟨zd9 C q.pos,0,sNone,sNone,(q.ex.length:Int)-1,(q'.ex.length:Int)-1⟩ q') (pE C .sumT d)
  else .ok q:=by
 rw[zfz,ev]
 split
 ·next h=>
  have w:q.pos<C.ts.length:=by
   rw[Bool.or_eq_true] at h;exact h.elim (fun k=>zaB k (by decide)) fun k=>zaB k (by decide)
  rw[zdl (by simp only[nd,zA];omega)];refine zai fun a z=>?_;obtain⟨b,D,A⟩:=zn z;obtain⟨rfl,_⟩:=zb7 A;have:=zbk D;rw[zA] at this;exact zdl (by simp only[nd];omega)
 ·rfl
theorem zgk (C:Cx) (d:Nat) (q:PS):pE C .prodT d q=
  if isT C q.pos 4 zz then
   bd (bd (pE C .part d (adv q)) fun q'=>zT C ⟨8,0,sNone,sNone,(q.ex.length:Int)-1,(q'.ex.length:Int)-1⟩ q') (pE C .prodT d)
  else .ok q:=by
 rw[zfz,ev]
 split
 ·next D=>
  have h:q.pos<C.ts.length:=zaB D (by decide);rw[zdl (by simp only[nd,zA];omega)];refine zai fun a w=>?_;obtain⟨b,A,z⟩:=zn w;obtain⟨rfl,_⟩:=zb7 z;have:=zbk A;rw[zA] at this;exact zdl (by simp only[nd];omega)
 ·rfl
theorem zbT (C:Cx) (d:Nat) (q:PS):pE C .part d q=
  if (ze C q.pos).kind==2 then zT C ⟨1,(ze C q.pos).num,sNone,sNone,0,0⟩ (adv q)
  else if isT C q.pos 4 zp then
   if 20<=d then .error (zt C q.pos) else bd (pE C .sum (d+1) (adv q)) (zd C 4 zaA)
  else if C.scr&&isT C q.pos 1 zaH then zbK C zaH (adv q)
  else bd (zm C false q) fun x=>if isT C x.1.pos 4 cPoint then bd (zm C true (adv x.1)) fun y=>zca C x.2 y.2 y.1 else zbK C x.2 x.1:=by
 rw[zfz,ev]
 split
 ·rfl
 ·split
  ·next h=>
   have w:q.pos<C.ts.length:=zaB h (by decide)
   split
   ·rfl
   ·rw[zdl (by simp only[nd,zA];omega)]
  ·rfl
theorem zf1 (k:Nat):(0:Int)<10^k:=Int.pow_pos (by omega)
theorem zel (k:Nat):(10:Int)^(k+1)=10^k*10:=Int.pow_succ _ _
theorem zf2 {a b:Nat} (h:a<=b):(10:Int)^a<=10^b:=by
 induction b with
 |zero=>
  obtain rfl:a=0:=by omega
  exact Int.le_refl _
 |succ b q=>
  by_cases e:a=b+1
  ·rw[e];exact Int.le_refl _
  ·have:=q (by omega);have:=zf1 b;rw[zel];omega
theorem zeL (n:Int) (k:Nat):n/10^k/10=n/10^(k+1):=by
 rw[zel,Int.ediv_ediv_of_nonneg (Int.le_of_lt (zf1 k))]
theorem zeM (n:Int) (k:Nat) (h:0<=n):0<=n/10^k/\n/10^k<=n:=
 ⟨Int.ediv_nonneg h (Int.le_of_lt (zf1 k)),Int.ediv_le_self _ h⟩
def dc:Nat->Int->Nat
 |0,_=>1
 |f+1,q=>if q<10 then 1 else dc f (q/10)+1
theorem znL (f:Nat) (q:Int) (A:0<=q) (h:q<10^(f+1)):1<=dc f q/\dc f q<=f+1/\q<10^dc f q/\(dc f q=1∨10^(dc f q-1)<=q):=by
 induction f generalizing q with
 |zero=>simpa [dc] using h
 |succ f z=>
  unfold dc;by_cases w:q<10
  ·rw[if_pos w];exact⟨by omega,by omega,by simpa using w,.inl rfl⟩
  ·rw[if_neg w];obtain⟨a,b,c,d⟩:=z (q/10) (by omega) (by rw[zel] at h;omega);refine⟨by omega,by omega,?_,.inr ?_⟩
   ·rw[zel];omega
   ·rw[Nat.add_sub_cancel];rcases d with d|d
    ·rw[d];show (10:Int)^1<=q;rw[show (10:Int)^1=10 from by decide];omega
    ·rw[show dc f (q/10)=(dc f (q/10)-1)+1 from by omega,zel];omega
def dcn (m:Int):Nat:=dc 19 m
theorem zdA (m:Int) (q:0<=m) (h:m<=18446744073709551615):1<=dcn m/\dcn m<=20/\m<10^dcn m/\(dcn m=1∨10^(dcn m-1)<=m):=
 znL 19 m q (by rw[show (10:Int)^(19+1)=100000000000000000000 by decide];omega)
theorem znM (m:Int) (w:0<=m) (h:m<=18446744073709551615) (k:Nat):10<=m/10^k↔k+1<dcn m:=by
 obtain⟨a,b,c,d⟩:=zdA m w h;rw[Int.le_ediv_iff_mul_le (zf1 k),Int.mul_comm,<-zel];constructor
 ·intro q;rcases lt_or_ge (k+1) (dcn m) with e|e
  ·exact e
  ·have:=zf2 e;omega
 ·intro q;have:=zf2 (show k+1<=dcn m-1 by omega);omega
theorem zj2 (m:Int) (w:1<=m) (h:m<=18446744073709551615) (k:Nat):m/10^k≠0↔k<dcn m:=by
 obtain⟨a,b,c,d⟩:=zdA m (by omega) h;have z:=zeM m k (by omega);have:m/10^k≠0↔1<=m/10^k:=by omega
 rw[this,Int.le_ediv_iff_mul_le (zf1 k),Int.one_mul];constructor
 ·intro q;rcases lt_or_ge k (dcn m) with e|e
  ·exact e
  ·have:=zf2 e;omega
 ·intro q;have:=zf2 (show k<=dcn m-1 by omega);rcases d with d|d
  ·obtain rfl:k=0:=by omega
   simpa using w
  ·omega
def dgk (m:Int):Nat->List Int
 |0=>[]
 |k+1=>(48+m/10^k%10)::dgk m k
theorem zcG (m:Int) (k:Nat):(dgk m k).length=k:=by
 induction k with
 |zero=>rfl
 |succ k h=>simp[dgk,h]
theorem zj3 (m:Int) (c k:Nat) (h:k<c):(dgk m c)[c-1-k]? =some (48+m/10^k%10):=by
 induction c with
 |zero=>omega
 |succ c q=>
  by_cases e:k=c
  ·subst e;rw[show k+1-1-k=0 from by omega];rfl
  ·rw[show c+1-1-k=(c-1-k)+1 from by omega,dgk,List.getElem?_cons_succ];exact q (by omega)
def zgl (n:Int):Int:=if n<0 then-n else n
def zcc (n:Int):List Int:=(if n<0 then [45] else [])++dgk (zgl n) (dcn (zgl n))
theorem zh2 {n:Int} (h:n<0):zcc n=45::dgk (-n) (dcn (-n)):=by simp[zcc,h,zgl]
theorem zh3 {n:Int} (h:0<=n):zcc n=dgk n (dcn n):=by
 have: ¬n<0:=by omega
 simp[zcc,this,zgl]
theorem znN (L:List Int):zcR L L.length=L:=by simp[zcR]
theorem znO (x:Int) (L:List Int):(zcR (x::L) L.length).set 0 x=x::L:=by
 simp[zcR]
theorem znP (p:List Int) (m:Int) (c k:Nat) (h:k<c):(p++dgk m c)[(p++dgk m c).length-1-k]? =some (48+m/10^k%10):=by
 rw[List.length_append,zcG,List.getElem?_append_right (by omega),show p.length+c-1-k-p.length=c-1-k from by omega];exact zj3 m c k h
structure Md where
 rq:List BA
 im:List Im
 ep:List Ep
 st:List Sm
 ex:List Ex
def zeN (q:PS):Md:=⟨q.rq,q.im,q.ep++q.la,q.st,q.ex⟩
def zR (k:Int):Bool:=k==6||k==7
def zac (k:Int):Bool:=k==6||k==7||k==8
def zh:Ex:=⟨0,0,sNone,sNone,0,0⟩
abbrev cParens:BA:={data:=#[40,41]}
abbrev tPlus:BA:={data:=#[32,43,32]}
abbrev tMinus:BA:={data:=#[32,45,32]}
abbrev tStar:BA:={data:=#[32,42,32]}
def zK (b:Bool) (t:BA):BA:=if b then zp++t++zaA else t
def prE (ex:List Ex):Nat->Nat->BA
 |0,_=>sNone
 |f+1,i=>
  let x:=ex.getD i zh
  if x.kind==1 then strOfNums (zcc x.num)
  else if x.kind==2 then x.name
  else if x.kind==3 then x.name++cParens
  else if x.kind==4 then x.name++cPoint++x.field
  else if x.kind==5 then x.name++cPoint++x.field++cParens
  else if x.kind==6 then prE ex f x.l.toNat++tPlus++zK (zR (ex.getD x.r.toNat zh).kind) (prE ex f x.r.toNat)
  else if x.kind==7 then prE ex f x.l.toNat++tMinus++zK (zR (ex.getD x.r.toNat zh).kind) (prE ex f x.r.toNat)
  else if x.kind==8 then zK (zR (ex.getD x.l.toNat zh).kind) (prE ex f x.l.toNat)++tStar++zK (zac (ex.getD x.r.toNat zh).kind) (prE ex f x.r.toNat)
  else sNone
def prX (ex:List Ex) (i:Nat):BA:=prE ex (i+1) i
def zb8 (ex:List Ex):Prop:=∀(i:Nat) (x:Ex),ex[i]? =some x->zac x.kind=true->0<=x.l/\x.l<(i:Int)/\0<=x.r/\x.r<(i:Int)
theorem zbL {k:Int} (h:(k==6)=true∨(k==7)=true∨(k==8)=true):zac k=true:=by
 unfold zac;rcases h with h|h|h<;>simp[h]
variable (g:Nat) (w:Nat->Nat) (b:Nat) {W:List Ex} {c:Nat} {C:Md}
theorem zgm (h:zb8 W) {i:Nat} (q:zac (W.getD i zh).kind=true):0<=(W.getD i zh).l/\(W.getD i zh).l<(i:Int)/\0<=(W.getD i zh).r/\(W.getD i zh).r<(i:Int):=by
 by_cases w:i<W.length
 ·have e:W.getD i zh=W[i]:=by simp[List.getD,getElem?_eq_getElem w]
  rw[e] at q ⊢;exact h i _ (getElem?_eq_getElem w) q
 ·have e:W.getD i zh=zh:=by simp[List.getD,List.getElem?_eq_none (by omega:W.length<=i)]
  rw[e] at q;exact absurd q (by decide)
theorem zj4 (h:zb8 W) (f:Nat): ∀(g i:Nat),i<f->i<g->prE W f i=prE W g i:=by
 induction f with
 |zero=>intro g i L;omega
 |succ f E=>
  intro g i K J;obtain⟨g,rfl⟩: ∃I,g=I+1:=⟨g-1,by omega⟩;rw[prE,prE];have H:=fun w=>zgm h (i:=i) w;generalize W.getD i zh=x at H ⊢;have q: ∀w:zac x.kind=true,prE W f x.l.toNat=prE W g x.l.toNat/\prE W f x.r.toNat=prE W g x.r.toNat:=fun w=>by
   have:=H w;exact⟨E g _ (by omega) (by omega),E g _ (by omega) (by omega)⟩
  by_cases z:(x.kind==6)=true
  ·rw[(q (zbL (.inl z))).1,(q (zbL (.inl z))).2]
  ·by_cases D:(x.kind==7)=true
   ·rw[(q (zbL (.inr (.inl D)))).1,(q (zbL (.inr (.inl D)))).2]
   ·by_cases A:(x.kind==8)=true
    ·rw[(q (zbL (.inr (.inr A)))).1,(q (zbL (.inr (.inr A)))).2]
    ·simp only[z,D,A,Bool.false_eq_true,↓reduceIte]
theorem zh4 (h:zb8 W) (i:Nat):prX W i=
  if (W.getD i zh).kind==1 then strOfNums (zcc (W.getD i zh).num)
  else if (W.getD i zh).kind==2 then (W.getD i zh).name
  else if (W.getD i zh).kind==3 then (W.getD i zh).name++cParens
  else if (W.getD i zh).kind==4 then (W.getD i zh).name++cPoint++(W.getD i zh).field
  else if (W.getD i zh).kind==5 then (W.getD i zh).name++cPoint++(W.getD i zh).field++cParens
  else if (W.getD i zh).kind==6 then prX W (W.getD i zh).l.toNat++tPlus++zK (zR (W.getD (W.getD i zh).r.toNat zh).kind) (prX W (W.getD i zh).r.toNat)
  else if (W.getD i zh).kind==7 then prX W (W.getD i zh).l.toNat++tMinus++zK (zR (W.getD (W.getD i zh).r.toNat zh).kind) (prX W (W.getD i zh).r.toNat)
  else if (W.getD i zh).kind==8 then zK (zR (W.getD (W.getD i zh).l.toNat zh).kind) (prX W (W.getD i zh).l.toNat)++tStar++zK (zac (W.getD (W.getD i zh).r.toNat zh).kind) (prX W (W.getD i zh).r.toNat)
  else sNone:=by
 rw[prX,prE];have E:=fun w=>zgm h (i:=i) w;generalize W.getD i zh=x at E ⊢;have q: ∀w:zac x.kind=true,prE W i x.l.toNat=prX W x.l.toNat/\prE W i x.r.toNat=prX W x.r.toNat:=fun w=>by
  have:=E w;exact⟨zj4 h _ _ _ (by omega) (by omega),zj4 h _ _ _ (by omega) (by omega)⟩
 by_cases z:(x.kind==6)=true
 ·rw[(q (zbL (.inl z))).1,(q (zbL (.inl z))).2]
 ·by_cases D:(x.kind==7)=true
  ·rw[(q (zbL (.inr (.inl D)))).1,(q (zbL (.inr (.inl D)))).2]
  ·by_cases A:(x.kind==8)=true
   ·rw[(q (zbL (.inr (.inr A)))).1,(q (zbL (.inr (.inr A)))).2]
   ·simp only[z,D,A,Bool.false_eq_true,↓reduceIte]
def zav (ex:List Ex) (k:Int):Nat:=(ex.map fun x=>if zac x.kind then (if x.l==k then 1 else 0)+(if x.r==k then 1 else 0) else 0).sum
def zaP (st:List Sm) (k:Int):Nat:=(st.map fun s=>if s.expr==k then 1 else 0).sum
structure Tree (m:Md):Prop where
 ahead:zb8 m.ex
 stm: ∀s∈m.st,0<=s.expr/\s.expr<(m.ex.length:Int)
 once: ∀k,k<m.ex.length->zav m.ex (k:Int)+zaP m.st (k:Int)=1
def sm (k:Nat) (f:Nat->Nat):Nat:=((List.range k).map f).sum
theorem znQ:sm 0 w=0:=rfl
theorem zdP:sm (g+1) w=sm g w+w g:=by
 unfold sm;rw[List.range_succ,List.map_append,List.sum_append];simp
theorem zh5 (S:Nat->Nat):sm g (fun j=>w j+S j)=sm g w+sm g S:=by
 induction g with
 |zero=>rfl
 |succ g h=>rw[zdP,zdP,zdP,h];omega
theorem zem {f g:Nat->Nat} (h: ∀j,j<c->f j=g j):sm c f=sm c g:=by
 induction c with
 |zero=>rfl
 |succ c q=>rw[zdP,zdP,q fun j w=>h j (by omega),h c (by omega)]
theorem zh6:sm g (fun _=>0)=0:=by
 induction g with
 |zero=>rfl
 |succ g h=>rw[zdP,h]
theorem zh7 (l:Int) (A:0<=l) (h:l<(b:Int)):sm b (fun j=>(if l==(j:Int) then 1 else 0)*w j)=w l.toNat:=by
 induction b with
 |zero=>omega
 |succ b q=>
  rw[zdP];by_cases e:l=(b:Int)
  ·have S:sm b (fun j=>(if l==(j:Int) then 1 else 0)*w j)=0:=(zem (g:=fun _=>0) fun j z=>by rw[if_neg (by rw[beq_iff_eq];omega)];omega).trans (zh6 b);rw[S,if_pos (by rw[beq_iff_eq];exact e),show l.toNat=b from by omega];omega
  ·rw[q (by omega),if_neg (by rw[beq_iff_eq];exact e)];omega
def u1 (x:Ex) (k:Int):Nat:=if zac x.kind then (if x.l==k then 1 else 0)+(if x.r==k then 1 else 0) else 0
theorem zj5 (h:c<W.length) (k:Int):zav (W.drop c) k=u1 W[c] k+zav (W.drop (c+1)) k:=by
 rw[drop_eq_getElem_cons h,zav,map_cons,sum_cons];rfl
theorem znR (h:W.length<=c) (k:Int):zav (W.drop c) k=0:=by rw[List.drop_eq_nil_of_le h];rfl
theorem znS (h:zb8 W) (k:Nat) (A:k<W.length): ∀d j,j+d=k+1->zav (W.drop j) (k:Int)=zav (W.drop (k+1)) (k:Int):=by
 intro d
 induction d with
 |zero=>intro j q;rw[show j=k+1 from by omega]
 |succ d w=>
  intro j q;rw[zj5 (by omega),w (j+1) (by omega)];have:u1 W[j] (k:Int)=0:=by
   unfold u1
   split
   ·next z=>
    have:=h j _ (getElem?_eq_getElem (by omega)) z;rw[if_neg (by rw[beq_iff_eq];omega),if_neg (by rw[beq_iff_eq];omega)]
   ·rfl
  omega
def wt (ex:List Ex) (i:Nat):Nat:=(prX ex i).size
def zdQ (x:Ex):Nat:=x.name.size+x.field.size+40
theorem zgn (b:Bool) (t:BA):(zK b t).size<=t.size+2:=by
 unfold zK
 split
 ·rw[ByteArray.size_append,ByteArray.size_append];show 1+t.size+1<=t.size+2;omega
 ·omega
theorem znT (n:Int) (w: -9223372036854775808<=n) (q:n<=9223372036854775807):(strOfNums (zcc n)).size<=21:=by
 rw[strOfNums_size];by_cases h:n<0
 ·rw[zh2 h,List.length_cons,zcG];have:=(zdA (-n) (by omega) (by omega)).2.1;omega
 ·rw[zh3 (by omega),zcG];have:=(zdA n (by omega) (by omega)).2.1;omega
theorem znU (h:zb8 W) (i:Nat) (A: -9223372036854775808<=(W.getD i zh).num/\(W.getD i zh).num<=9223372036854775807):
  wt W i<=zdQ (W.getD i zh)+if zac (W.getD i zh).kind then wt W (W.getD i zh).l.toNat+wt W (W.getD i zh).r.toNat else 0:=by
 unfold wt;rw[zh4 h];generalize W.getD i zh=x at A ⊢;unfold zdQ;by_cases D:(x.kind==1)=true
 ·rw[if_pos D];have:=znT x.num A.1 A.2;omega
 ·rw[if_neg D];by_cases E:(x.kind==2)=true
  ·rw[if_pos E];omega
  ·rw[if_neg E];by_cases H:(x.kind==3)=true
   ·rw[if_pos H,ByteArray.size_append];have:cParens.size=2:=rfl;omega
   ·rw[if_neg H];by_cases J:(x.kind==4)=true
    ·rw[if_pos J,ByteArray.size_append,ByteArray.size_append];have:cPoint.size=1:=rfl;omega
    ·rw[if_neg J];by_cases I:(x.kind==5)=true
     ·rw[if_pos I,ByteArray.size_append,ByteArray.size_append,ByteArray.size_append];have:cPoint.size=1:=rfl;have:cParens.size=2:=rfl;omega
     ·rw[if_neg I];by_cases q:(x.kind==6)=true
      ·rw[if_pos q,if_pos (zbL (.inl q)),ByteArray.size_append,ByteArray.size_append];have:=zgn (zR (W.getD x.r.toNat zh).kind) (prX W x.r.toNat);have:tPlus.size=3:=rfl;omega
      ·rw[if_neg q];by_cases z:(x.kind==7)=true
       ·rw[if_pos z,if_pos (zbL (.inr (.inl z))),ByteArray.size_append,ByteArray.size_append];have:=zgn (zR (W.getD x.r.toNat zh).kind) (prX W x.r.toNat);have:tMinus.size=3:=rfl;omega
       ·rw[if_neg z];by_cases w:(x.kind==8)=true
        ·rw[if_pos w,if_pos (zbL (.inr (.inr w))),ByteArray.size_append,ByteArray.size_append];have:=zgn (zR (W.getD x.l.toNat zh).kind) (prX W x.l.toNat);have:=zgn (zac (W.getD x.r.toNat zh).kind) (prX W x.r.toNat);have:tStar.size=3:=rfl;omega
        ·rw[if_neg w];show 0<=_;omega
def zaY (ex:List Ex):Prop:=∀x∈ex,-9223372036854775808<=x.num/\x.num<=9223372036854775807
theorem zen (h:c<W.length):W.getD c zh=W[c]:=by simp[List.getD,getElem?_eq_getElem h]
theorem znV: ∀q:List Sm,(∀s∈q,0<=s.expr/\s.expr<(b:Int))->(q.map fun s=>w s.expr.toNat).sum=sm b (fun j=>zaP q (j:Int)*w j):=by
 intro q
 induction q with
 |nil=>intro _;show 0=_;rw[<-zh6 b];exact zem fun j _=>by simp[zaP]
 |cons s q z=>
  intro h;rw[map_cons,sum_cons,z fun x A=>h x (List.mem_cons_of_mem _ A)];have S:=h s List.mem_cons_self;rw[<-zh7 w b s.expr S.1 S.2,<-zh5];refine zem fun j _=>?_;simp only[zaP,map_cons,sum_cons];rw[add_mul]
theorem znW (t:Tree C) (J:zaY C.ex): ∀d k,k+d=C.ex.length->
  (C.st.map fun s=>wt C.ex s.expr.toNat).sum<=sm k (fun j=>(zaP C.st (j:Int)+zav (C.ex.drop k) (j:Int))*wt C.ex j)+((C.ex.drop k).map zdQ).sum:=by
 intro d
 induction d with
 |zero=>
  intro k z;have:k=C.ex.length:=by omega
  subst this;rw[znV _ _ _ t.stm];refine le_trans (Nat.le_of_eq ?_) (Nat.le_add_right _ _);refine zem fun j _=>?_;rw[znR (le_refl _),Nat.add_zero]
 |succ d A=>
  intro k z;have h:k<C.ex.length:=by omega
  refine le_trans (A (k+1) (by omega)) ?_;have H:zaP C.st (k:Int)+zav (C.ex.drop (k+1)) (k:Int)=1:=by
   have:=t.once k h;rw[<-znS t.ahead k h (k+1) 0 (by omega),drop_zero];omega
  rw[zdP,H,Nat.one_mul,drop_eq_getElem_cons h,map_cons,sum_cons];have D:=znU t.ahead k (by rw[zen h];exact J _ (List.getElem_mem h));rw[zen h] at D;have I:sm k (fun j=>(zaP C.st (j:Int)+zav (C.ex.drop k) (j:Int))*wt C.ex j)=sm k (fun j=>(zaP C.st (j:Int)+zav (C.ex.drop (k+1)) (j:Int))*wt C.ex j)+if zac C.ex[k].kind then wt C.ex C.ex[k].l.toNat+wt C.ex C.ex[k].r.toNat else 0:=by
   have e: ∀j:Nat,(zaP C.st (j:Int)+zav (C.ex.drop k) (j:Int))*wt C.ex j=(zaP C.st (j:Int)+zav (C.ex.drop (k+1)) (j:Int))*wt C.ex j+u1 C.ex[k] (j:Int)*wt C.ex j:=fun j=>by
    rw[zj5 h,<-add_mul];congr 1;omega
   rw[zem fun j _=>e j,zh5];congr 1
   split
   ·next w=>
    have q:=t.ahead k _ (getElem?_eq_getElem h) w;rw[<-zh7 (wt C.ex) k _ q.1 q.2.1,<-zh7 (wt C.ex) k _ q.2.2.1 q.2.2.2,<-zh5];refine zem fun j _=>?_;rw[u1,if_pos w,add_mul]
   ·next w=>
    rw[<-zh6 k];refine zem fun j _=>?_;rw[u1,if_neg w,Nat.zero_mul]
  have E:zav (C.ex[k]::C.ex.drop (k+1))=zav (C.ex.drop k):=by rw[<-drop_eq_getElem_cons h]
  rw[E,I];omega
theorem znX (t:Tree C) (h:zaY C.ex):(C.st.map fun s=>wt C.ex s.expr.toNat).sum<=(C.ex.map zdQ).sum:=by
 have:=znW t h C.ex.length 0 (by omega);rw[znQ,Nat.zero_add,drop_zero] at this;exact this
end Go.Proofs.YtgcbmogmniahjaaGreat
namespace Go.Proofs.YtgcbmogmniahjaaGreat
open Go.RowKit Go.PlainAid
theorem zh8 {w:World} {base n:Nat} {e:TypeId} {size:Nat} {v:Value} {xs:List Value} (h:w.ownsRow base e size v n xs): ∀k,v.ownBlock=some k->base<=k:=by
 intro k q;rcases h.2 with ⟨rfl,_⟩|⟨g,A,z,rfl,D,_⟩
 ·simp[Value.ownBlock] at q
 ·simp only[Value.ownBlock,Option.some.injEq] at q;omega
end Go.Proofs.YtgcbmogmniahjaaGreat
namespace Go.Proofs.YtgcbmogmniahjaaGreat
open Go.RowKit Go.PlainAid
def tkL (t:Tk):List Value:=[.int .i64 t.kind,.string t.text,.int .i64 t.num,.int .i64 t.pos]
def OwnT (w:World) (base:Nat) (e:TypeId) (g n cap:Nat) (ts:List Tk):Prop:=w.ownsRow base e 4 (.slice (some ⟨g,0,none⟩) n cap) n (ts.flatMap tkL)/\n=ts.length
variable {w:World} {g:Nat} {W:TypeId} {C:List Tk}
theorem zaw {S n q:Nat} (h:OwnT w g W S n q C):S<w.heap.size/\g<=S/\n<=q:=by
 rcases h.1.2 with ⟨z,_⟩|⟨K,A,D,z,H,I,J,_⟩
 ·simp at z
 ·simp only[Value.slice.injEq,Option.some.injEq,Addr.mk.injEq,and_true,true_and] at z;obtain⟨rfl,rfl⟩:=z;exact⟨(aLt I),H,J⟩
theorem zc3 {s:World} {S n z:Nat} (h:OwnT w g W S n z C) (K:Bw w s):OwnT s g W S n z C:=by
 have D:=(zaw h).1;refine⟨⟨h.1.1,?_⟩,h.2⟩;rcases h.1.2 with k|⟨M,I,A,H,q,L,J⟩
 ·exact .inl k
 ·simp only[Value.slice.injEq,Option.some.injEq,Addr.mk.injEq,and_true,true_and] at H;obtain⟨rfl,rfl⟩:=H;exact .inr ⟨S,z,A,rfl,q,(K.block S D).trans L,J⟩
theorem zh9 (w:World) (e:TypeId) (base:Nat) (h:base<=w.heap.size):OwnT (w.alloc (.cells #[] e)) base e w.heap.size 0 0 []:=
 ⟨World.ownsRow_lit w #[] 0 h (by unfold maxLen;omega) rfl,rfl⟩
theorem znY {P:Program} (w:World) {K:Array Oper} {rest:List Oper} {o:Oper} {a:Act} {Q:Exit->Act->World->Prop} (M:o.guard=none) (s x:Operand) (t:TypeId) (ho:o.op= .call {callee:=.builtin .append,args:=#[s,x],argTypes:=#[t,t]}) (base:Nat) (e:TypeId) (i:TypeInfo) (z:Value) (ht:P.underlying t=some (.slice e)) (hi:P.info? e=some i) (hz:i.zero=some z) (E:i.size=4) (N:i.bytes=40) (O:z.cells.size=4) (g n J:Nat) (ts:List Tk) (hs:a.eval s= .slice (some ⟨g,0,none⟩) n J) (D:OwnT w base e g n J ts) (b:Tk) (Z:Nat) (V:Z=w.heap.size) (hx:a.eval x= .slice (some ⟨Z,0,none⟩) 1 1) (hn:n+1<=1000000) (H:base<=w.heap.size) (h: ∀L A I,OwnT I base e L (n+1) A (ts++[b])->Below base w I->wpList P K Q rest (a.put o.dst (.slice (some ⟨L,0,none⟩) (n+1) A)) I):
  wpList P K Q (o::rest) a (w.alloc (.cells #[.int .i64 b.kind,.string b.text,.int .i64 b.num,.int .i64 b.pos] e)):=by
 subst V;refine wpList_append_own _ M s x t ho base e i z 4 40 ht hi hz E N O (by decide) _ n _ hs (D.1.alloc _) ⟨w.heap.size,0,none⟩ 1 1 (tkL b) hx rfl ?_ ?_ ?_ ?_ ?_ ?_
 ·intro j u q
  match j,q with
  |0,q=>simp[tkL] at q;subst q;simp[Addr.add]
  |1,q=>simp[tkL] at q;subst q;simp[Addr.add]
  |2,q=>simp[tkL] at q;subst q;simp[Addr.add]
  |3,q=>simp[tkL] at q;subst q;simp[Addr.add]
  |j+4,q=>simp[tkL] at q
 ·intro u Y;simp[tkL] at Y;rcases Y with rfl|rfl|rfl|rfl<;>rfl
 ·unfold maxLen;omega
 ·omega
 ·simp;omega
 ·intro v' I X h2 h3;have hb:Below base w I:=((Below.refl base w).alloc H _).grown h2 (by simp;omega) (zh8 D.1);rcases X.2 with ⟨hv,_⟩|⟨L,A,aa,rfl,U⟩
  ·have:=(h3.1 hv).1;simp at this
  ·refine h L A I ⟨?_,by rw[List.length_append];have:=D.2;simp;omega⟩ hb;rw[List.flatMap_append]
   simpa using X
end Go.Proofs.YtgcbmogmniahjaaGreat
namespace Go.Proofs.YtgcbmogmniahjaaGreat
open Go.RowKit Go.PlainAid Go.Deep
def RowAt {α:Type} (w:World) (a:Option Addr) (f:α->List Value) (m:Nat) (l:List α):Prop:=
 l=[]∨∃b off,a=some ⟨b,off,none⟩/\b<w.heap.size/\∀j x,l[j]? =some x->∀i v,(f x)[i]? =some v->w.cell? ⟨b,off+j*m+i,none⟩=some v
variable {w:World} {W:Option Addr} {g:Nat} {C:Addr} {S:Value}
theorem RowAt.later {α:Type} {A:World} {f:α->List Value} {l:List α} (h:RowAt w W f g l) (D:Bw w A):RowAt A W f g l:=by
 rcases h with h|⟨b,z,E,q,I⟩
 ·exact .inl h
 ·exact .inr ⟨b,z,E,Nat.lt_of_lt_of_le q D.size,fun j x J i v H=>by rw[D.cell q];exact I j x J i v H⟩
theorem RowAt.get {α:Type} {f:α->List Value} {l:List α} (h:RowAt w W f g l) {j:Nat} {x:α} (z:l[j]? =some x): ∃b q,W=some ⟨b,q,none⟩/\∀i v,(f x)[i]? =some v->w.cell? ⟨b,q+j*g+i,none⟩=some v:=by
 rcases h with h|⟨b,q,D,A,E⟩
 ·rw[h] at z;cases z
 ·exact⟨b,q,D,E j x z⟩
theorem zbp {α:Type} {f:α->List Value} {m:Nat} (w: ∀x,(f x).length=m) (l:List α): ∀(k:Nat) (x:α) (i:Nat) (v:Value),l[k]? =some x->(f x)[i]? =some v->(l.flatMap f)[k*m+i]? =some v:=by
 induction l with
 |nil=>intro k x i v h;cases h
 |cons y l z=>
  intro k x i v h q;rw[List.flatMap_cons];cases k with
  |zero=>
   cases h;rw[Nat.zero_mul,Nat.zero_add,List.getElem?_append_left (by rw[List.getElem?_eq_some_iff] at q;exact q.1)];exact q
  |succ k=>
   rw[List.getElem?_append_right (by rw[w,Nat.succ_mul];omega),w,show (k+1)*m+i-m=k*m+i by rw[Nat.succ_mul];omega];exact z k x i v h q
def zcw (left:Int) (c:Nat) (e:Ending):Prop:=∃z:Int,e= .returned (.int .i64 z)/\ -1<=z/\z<=left/\(0<=z->z+(c:Int)=left)
theorem zqf (h:w.cell? (C.add 0)=some S):C=⟨C.block,C.off,none⟩/\C.block<w.heap.size:=by
 have A:C.add 0=C:=by unfold Addr.add;simp
 rw[A] at h;obtain⟨b,D,q⟩:=C;have E:q=none:=by simpa using World.cell?_spot h
 subst E;refine⟨rfl,?_⟩;show b<_;rcases Nat.lt_or_ge b w.heap.size with z|z
 ·exact z
 ·have H:w.heap[b]? =none:=Array.getElem?_eq_none z;simp[World.cell?,H] at h
theorem zqg (h:C=⟨C.block,C.off,none⟩) (k:Nat):C.add k=⟨C.block,C.off+k,none⟩:=by
 obtain⟨b,w,q⟩:=C;simp only[Addr.mk.injEq,true_and] at h;subst h;unfold Addr.add
 split
 ·rename_i z
  rw[z,Nat.add_zero]
 ·rfl
theorem zdY {H:Type} {enc:TypeId×Value->H} {P:Program} {U:Nat} {E:Nat->Bool} {I:Bool} {α:Type} (x0:α) {f:α->List Value} {m:Nat} (aa:0<m) (hf: ∀x,(f x).length=m) {Q:α->Prop} {t e:TypeId} {z:DataW H×List MemPlace} (ht:P.underlying t=some (.slice e)) (ce:P.cellsOf e=m) (hd: ∀n cs y,DataW.trod enc P w g E I n e cs=some y->cs.length=m->∃x,cs=f x/\Q x) (h:DataW.trod enc P w g E I U t [S]=some z): ∃(a:Option Addr) (K:Nat) (l:List α),S= .slice a l.length K/\l.length<=maxLen/\RowAt w a f m l/\∀x∈l,Q x:=by
 haveI:Inhabited α:=⟨x0⟩
 rcases open_slice ht h with ⟨M,_⟩|⟨a,A,K,mm,n,D,Pl,M,hb,hl,hm,Z,_,O⟩
 ·simp only[List.cons.injEq,and_true] at M;exact⟨none,0,[],M,Nat.zero_le _,.inl rfl,fun x O=>by cases O⟩
 ·simp only[List.cons.injEq,and_true] at M;have ac:A<=mm:=by rw[Z];split<;>omega
  have N: ∀i,i<A->∃x:α,Q x/\∀j S,(f x)[j]? =some S->w.cell? (a.add (i*m+j))=some S:=by
   intro i hi;obtain⟨ab,h1,h2⟩:=O i (by omega);rw[ce] at h1;obtain⟨_,q,L⟩:=World.cells?_some h1;obtain⟨x,rfl,hq⟩:=hd _ _ _ h2 q;refine⟨x,hq,fun j S Y=>?_⟩;have X:j<m:=by have:=(List.getElem?_eq_some_iff.1 Y).1;rw[hf] at this;exact this
   have:=L j (by omega);rw[add_add] at this;rw[this];exact Y
  obtain⟨s,hg⟩:=choose_lt N;have q:((List.range A).map s).length=A:=by simp
  refine⟨some a,K,(List.range A).map s,by rw[q];exact M,by rw[q];omega,?_,?_⟩
  ·by_cases hz:A=0
   ·exact .inl (by rw[hz];rfl)
   ·have J: ∃v0,w.cell? (a.add 0)=some v0:=by
     have:=(hg 0 (by omega)).2 0 ((f (s 0))[0]'(by rw[hf];exact aa)) (List.getElem?_eq_getElem _);rw[Nat.zero_mul] at this;exact⟨_,this⟩
    obtain⟨v0,J⟩:=J;have ha:=zqf J;refine .inr ⟨a.block,a.off,by rw[<-ha.1],ha.2,fun j x X i S Y=>?_⟩;have V:j<A:=by have:=(List.getElem?_eq_some_iff.1 X).1;rw[q] at this;exact this
    rw[List.getElem?_map,List.getElem?_range V] at X;cases X;have hc:=(hg j V).2 i S Y;rw[zqg ha.1] at hc;rw[Nat.add_assoc];exact hc
  ·intro x O;obtain⟨i,hi,rfl⟩:=List.mem_map.1 O;exact (hg i (List.mem_range.1 hi)).1
end Go.Proofs.YtgcbmogmniahjaaGreat
