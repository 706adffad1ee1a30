/- Facts and walks that the theorem stands on. -/
import Derived.WalkKit
import Derived.PlainAid
import Derived.Laws.BytesArg
import Derived.Lib.Strings
import Derived.Deep.RegionLaw
import Derived.Deep.Slices
import Derived.OpenShut
import Derived.Below
namespace Go.Proofs.YtgcbmogmniahjaaGreat
open Go.RowKit Go.PlainAid
abbrev BA:=ByteArray
theorem aLt {α : Type _} {a : Array α} {i : Nat} {b : α} (h : a[i]? =some b) : i<a.size:=(Array.getElem?_eq_some_iff.1 h).1
def inB (a b c:Int):Bool:=decide (b<=a)&&decide (a<=c)
theorem zja {a b c:Int} (h:b<=a) (k:a<=c):inB a b c=true:=by simp[inB,h,k]
theorem zhn {a b c:Int} (h: ¬(b<=a/\a<=c)):inB a b c=false:=by
 simp only[inB,Bool.and_eq_false_iff,decide_eq_false_iff_not];omega
theorem zi {a b:Bool} (h:a=b):Ending.returned (.bool a)= .returned (.bool b):=by rw[h]
theorem zbC {k:IntKind} {a b:Int} (h:a=b):Ending.returned (.int k a)= .returned (.int k b):=by rw[h]
theorem za7 {a b:BA} (h:a=b):Ending.returned (.string a)= .returned (.string b):=by rw[h]
theorem zdF {a b:Int} {c d:Bool} (h:a=b) (k:c=d):Ending.returned (.tuple #[.int .i64 a,.bool c])= .returned (.tuple #[.int .i64 b,.bool d]):=by rw[h,k]
def zjb (s:BA):Nat->Int
 |0=>0
 |k+1=>zjb s k*256+bt s k
def znk (s:BA) (n:Int):Bool:=inB n 1 7&&decide (n<=s.size)
def rfV (s:BA) (n:Int):Int:=if znk s n then zjb s n.toNat else 0
abbrev sNone:BA:={data:=#[]}
theorem zg (w:World) (o:Obj):(w.alloc o).heap.size=w.heap.size+1:=by show (w.heap.push _).size=_;simp
theorem _root_.Go.RowKit.Hid.o {p:Prop} (h:Go.RowKit.Hid p):p:=h
theorem zc {p:Prop} (h:p):Hid p:=h
theorem zdc {α:Type} {l:List α} {j:Nat} {x:α} (h:l[j]? =some x):l.take (j+1)=l.take j++[x]:=by
 rw[List.take_add_one,h];rfl
def zcL (w:World) (base:Nat) (e:TypeId) (v:Value) (n:Nat) (xs:List Int):Prop:=w.ownsRow base e 1 v n (xs.map (Value.int .u8))
theorem zjc {P:Program} {w:World} {src dst e:TypeId} (L:P.underlying src=some (.slice e)) (K:P.underlying e=some (.int .u8)) (J:P.underlying dst=some .string)
  {base n:Nat} {v:Value} {xs:List Int} (h:zcL w base e v n xs):(convert src dst v).run P w= .ok (.string (strOfNums xs)) w:=by
 obtain⟨A,V⟩:=h;rw[List.length_map,Nat.mul_one] at A;rcases V with ⟨rfl,rfl⟩|⟨g,q,H,rfl,O,U,X,M,I,N⟩
 ·obtain rfl:=List.length_eq_zero_iff.1 A;exact run_convert_bytes_nil w src e L K 0 0 dst J
 ·refine run_convert_bytes_arg w src e L K g 0 n q xs A (fun i Y=>?_) dst J;have z:w.ownsRow base e 1 (.slice (some ⟨g,0,none⟩) n q) n (xs.map (Value.int .u8)):=⟨by simpa using A,.inr ⟨g,q,H,rfl,O,U,X,M,I,N⟩⟩;have:=z.cellAt i (by omega);rw[Nat.zero_add,this];simp[List.getD,List.getElem?_eq_getElem (show i<xs.length by omega)]
theorem zjd {P:Program} {src dst e:TypeId} (z:P.underlying src=some (.slice e)) (q:P.underlying e=some (.int .u8)) (h:P.underlying dst=some .string)
  (w:World) (x:Int):(convert src dst (.slice (some ⟨w.heap.size,0,none⟩) 1 1)).run P (w.alloc (.cells #[.int .u8 x] e))= .ok (.string (strOfNums [x])) (w.alloc (.cells #[.int .u8 x] e)):=by
 refine run_convert_bytes_arg _ src e z q w.heap.size 0 1 1 [x] rfl (fun i A=>?_) dst h;obtain rfl:i=0:=by omega
 rw[World.cell?_alloc_new];rfl
theorem znl (xs h:List Int):strOfNums xs++strOfNums h=strOfNums (xs++h):=by
 unfold strOfNums;rw[ByteArray.mk_append_mk,List.map_append]
theorem zfX (x:Int) (h:List Int):strOfNums [x]++strOfNums h=strOfNums (x::h):=znl [x] h
def zxc (L:List Int) (k:Nat):List Int:=L.take k++List.replicate (L.length-k) 0
def zcM (L:List Int) (k:Nat):List Int:=List.replicate (L.length-k) 0++L.drop (L.length-k)
theorem zje (L:List Int):zcM L 0=List.replicate L.length 0:=by simp[zcM]
theorem zjf (L:List Int) (k:Nat) (x:Int) (h:k<L.length) (w:L[L.length-1-k]? =some x):(zcM L k).set (L.length-1-k) x=zcM L (k+1):=by
 have A:List.replicate (L.length-k) (0:Int)=List.replicate (L.length-(k+1)) 0++[0]:=by
  rw[show L.length-k=(L.length-(k+1))+1 from by omega,List.replicate_succ']
 have z:L.drop (L.length-(k+1))=x::L.drop (L.length-k):=by
  have e:L.length-(k+1)=L.length-1-k:=by omega
  rw[e];have q:L.length-1-k<L.length:=by omega
  rw[List.drop_eq_getElem_cons q];rw[List.getElem?_eq_getElem q] at w;simp only[Option.some.injEq] at w;rw[w,show L.length-1-k+1=L.length-k from by omega]
 unfold zcM;rw[A,z,List.append_assoc,List.set_append_right _ _ (by simp;omega),List.length_replicate,show L.length-1-k-(L.length-(k+1))=0 from by omega];rfl
theorem zho {w:World} {B g n q:Nat} {e:TypeId} {L:List Int} (h:zcL w B e (.slice (some ⟨g,0,none⟩) n q) n L) (j:Nat) (x:Int):
  zcL (w.setCell ⟨g,j,none⟩ (.int .u8 x)) B e (.slice (some ⟨g,0,none⟩) n q) n (L.set j x):=by
 unfold zcL at h ⊢;rw[List.map_set];exact (h.stored j (.int .u8 x)).1
theorem zhp {w:World} {B g n q:Nat} {e:TypeId} {L:List Int} (h:zcL w B e (.slice (some ⟨g,0,none⟩) n q) n L) (j:Nat) (A:j<n): ∃v,w.cell? ⟨g,j,none⟩=some v:=by
 unfold zcL at h;have z:=h.1;rw[List.length_map,Nat.mul_one] at z;rw[h.cellAt j (by omega)];simp[List.getElem?_eq_getElem (show j<L.length by omega)]
theorem zhq {w:World} {B g n q:Nat} {e:TypeId} {L:List Int} (h:zcL w B e (.slice (some ⟨g,0,none⟩) n q) n L) (j:Nat):w.frozen? ⟨g,j,none⟩=false:=World.ownsRow.frozenAt h j
def dl (n:Int):Nat->List Int
 |0=>[]
 |k+1=>(n/2^(8*k)%256)::dl n k
def znm (n m:Int):Bool:=inB m 1 7&&decide (0<=n)&&decide (n/2^(8*m.toNat)=0)
def fxL (n m:Int):List Int:=if znm n m then dl n m.toNat else []
def bsl (s:BA):Nat->Nat->List Int
 |_,0=>[]
 |i,m+1=>bt s i::bsl s (i+1) m
theorem znn (s:BA) (i m:Nat):(bsl s i m).length=m:=by
 induction m generalizing i with
 |zero=>rfl
 |succ m h=>simp[bsl,h]
theorem zno (s:BA) (i:Nat) (h:i<s.data.toList.length):UInt8.ofNat (bt s i).toNat=s.data.toList[i]:=by
 have q:i<s.size:=by simpa using h
 rw[<-get_bt s i q,Int.toNat_natCast,UInt8.ofNat_toNat];rfl
theorem znp (s:BA) (i m:Nat) (h:i+m<=s.size):(bsl s i m).map (fun n=>UInt8.ofNat n.toNat)=(s.data.toList.drop i).take m:=by
 induction m generalizing i with
 |zero=>simp[bsl]
 |succ m w=>
  have q:i<s.data.toList.length:=by rw[Array.length_toList];exact Nat.lt_of_lt_of_le (show i<i+(m+1) by omega) h
  rw[bsl,List.map_cons,w (i+1) (by omega),List.drop_eq_getElem_cons q,List.take_succ_cons,zno s i q]
theorem zjg (s:BA) (k:Nat) (h:k<=s.size):s.extract 0 k=strOfNums (bsl s 0 k):=by
 have e:(s.extract 0 k).data.toList=(strOfNums (bsl s 0 k)).data.toList:=by
  rw[Lib.extract_data,strOfNums_data,znp s 0 k (by omega),Nat.sub_zero]
 have q:(s.extract 0 k).data=(strOfNums (bsl s 0 k)).data:=by
  rw[<-Array.toArray_toList (xs:=(s.extract 0 k).data),e,Array.toArray_toList]
 have w: ∀a b:BA,a.data=b.data->a=b:=by rintro⟨a⟩ ⟨b⟩ h;cases h;rfl
 exact w _ _ q
theorem zfY {a b:BA} (h:a.data.toList=b.data.toList):a=b:=by
 obtain⟨⟨a⟩⟩:=a;obtain⟨⟨b⟩⟩:=b;simp only at h;rw[h]
theorem zdY (a b:BA):(a.toList==b.toList)=true↔a=b:=by
 rw[beq_iff_eq,Lib.toList_data,Lib.toList_data];exact⟨zfY,fun h=>by rw[h]⟩
theorem znq (s:BA):s=strOfNums (bsl s 0 s.size):=by
 rw[<-zjg s s.size (Nat.le_refl _)];refine zfY ?_;rw[Lib.extract_data,List.drop_zero,Nat.sub_zero,List.take_of_length_le];rw[Array.length_toList];exact Nat.le_refl _
theorem zd1 (s:BA) (k:Nat):bt s k=(s.data.toList.map (fun b=>(b.toNat:Int))).getD k 0:=by
 unfold bt;by_cases h:k<s.size
 ·rw[dif_pos h];have q:k<s.data.toList.length:=by rw[Array.length_toList];exact h
  simp only[List.getD,List.getElem?_map,List.getElem?_eq_getElem q,Option.map_some,Option.getD_some];rfl
 ·rw[dif_neg h];have q:s.data.toList.length<=k:=by rw[Array.length_toList];exact Nat.le_of_not_lt h
  simp[List.getD,List.getElem?_eq_none q]
theorem zfZ (a b:BA):(a++b).data.toList=a.data.toList++b.data.toList:=by
 obtain⟨⟨a⟩⟩:=a;obtain⟨⟨b⟩⟩:=b;rw[ByteArray.mk_append_mk]
def za2 (c:Int) (scr:Bool):Bool:=decide (97<=c/\c<=122)||decide (65<=c/\c<=90)||decide (c=95)||(scr&&decide (c=36))
def zK (c:Int):Bool:=decide (48<=c/\c<=57)
def zM (scr:Bool) (c:Int):Bool:=za2 c scr||zK c
def zbz (c:Int):Bool:=decide (c≠10)
abbrev zcC (c:Int):Prop:=c=9∨c=10∨c=13∨c=32
abbrev zbo (c:Int):Prop:=c=123∨c=125∨c=40∨c=41∨c=44∨c=59∨c=61∨c=46∨c=42∨c=43∨c=45
abbrev zbD (c:Int):Prop:=32<=c/\c<=126/\c≠34/\c≠92
theorem zdZ {c:Int} {h:Bool}:za2 c h=true↔(97<=c/\c<=122)∨(65<=c/\c<=90)∨c=95∨(h=true/\c=36):=by simp[za2,or_assoc]
theorem zcN {c:Int}:zK c=true↔48<=c/\c<=57:=by simp[zK]
def za3 (p:Int->Bool) (s:BA) (a e:Nat):Prop:=a<=e/\e<=s.size/\(∀j,a<=j->j<e->p (bt s j)=true)/\(e<s.size->p (bt s e)=false)
theorem zfm {p:Int->Bool} {s:BA} {a q w:Nat} (K:za3 p s a q) (I:za3 p s a w):q=w:=by
 obtain⟨H,N,M,L⟩:=K;obtain⟨J,O,z,A⟩:=I;rcases Nat.lt_trichotomy q w with h|h|h
 ·have:=z q H h;rw[L (by omega)] at this;cases this
 ·exact h
 ·have:=M w J h;rw[A (by omega)] at this;cases this
def zbE (s:BA) (a:Nat):Nat->Int
 |0=>0
 |k+1=>zbE s a k*10+(bt s (a+k)-48)
def zba (s:BA) (a:Nat) (scr:Bool) (n:Int) (e:Nat):Prop:=
 za3 zK s a e/\a<e/\(e=a+1∨bt s a≠48)/\n=zbE s a (e-a)/\n<=1000000/\(e<s.size->za2 (bt s e) scr=false)
theorem znr {s:BA} {a:Nat} {h:Bool} {z H:Int} {q I:Nat} (A:zba s a h z q) (w:zba s a h H I):z=H/\q=I:=by
 have J:=zfm A.1 w.1;subst J;exact⟨A.2.2.2.1.trans w.2.2.2.1.symm,rfl⟩
theorem zjh {s:BA} {a:Nat} (k m:Nat) (q: ∀j,j<m->48<=bt s (a+j)) (J:k<=m):0<=zbE s a k/\zbE s a k<=zbE s a m:=by
 have I: ∀m,(∀j,j<m->48<=bt s (a+j))->0<=zbE s a m:=by
  intro m
  induction m with
  |zero=>intro _;exact Int.le_refl _
  |succ m w=>
   intro h;have z:=w (fun j A=>h j (by omega));have H:=h m (by omega);show 0<=zbE s a m*10+(bt s (a+m)-48);omega
 induction m with
 |zero=>
  obtain rfl:k=0:=by omega
  exact⟨Int.le_refl _,Int.le_refl _⟩
 |succ m w=>
  by_cases e:k=m+1
  ·subst e;exact⟨I _ q,Int.le_refl _⟩
  ·obtain⟨z,H⟩:=w (fun j A=>q j (by omega)) (by omega);have K:=q m (by omega);refine⟨z,?_⟩;show _<=zbE s a m*10+(bt s (a+m)-48);omega
def zb0 (s:BA) (a e:Nat):Prop:=a+2<=e/\e<=s.size/\e<=a+42/\bt s (e-1)=34/\∀j,a<j->j+1<e->zbD (bt s j)
theorem zns {s:BA} {a q w:Nat} (J:zb0 s a q) (I:zb0 s a w):q=w:=by
 obtain⟨N,M,V,K,H⟩:=J;obtain⟨O,U,L,A,z⟩:=I;rcases Nat.lt_trichotomy q w with h|h|h
 ·exact absurd K (z (q-1) (by omega) (by omega)).2.2.1
 ·exact h
 ·exact absurd A (H (w-1) (by omega) (by omega)).2.2.1
structure Tk where
 kind:Int
 text:BA
 num:Int
 pos:Nat
def Tok (s:BA) (scr:Bool) (a:Nat) (t:Tk) (e:Nat):Prop:=
 (za2 (bt s a) scr=true/\za3 (zM scr) s a e/\t=⟨1,s.extract a e,0,a⟩)∨(∃n,zK (bt s a)=true/\zba s a scr n e/\t=⟨2,{data:=#[]},n,a⟩)∨(bt s a=34/\zb0 s a e/\t=⟨3,s.extract (a+1) (e-1),0,a⟩)∨(zbo (bt s a)/\t=⟨4,s.extract a (a+1),0,a⟩/\e=a+1)
theorem Tok.name {s:BA} {q:Bool} {a e:Nat} (h:za2 (bt s a) q=true) (w:za3 (zM q) s a e):Tok s q a ⟨1,s.extract a e,0,a⟩ e:=.inl ⟨h,w,rfl⟩
theorem Tok.num {s:BA} {q:Bool} {a e:Nat} {n:Int} (h:zK (bt s a)=true) (w:zba s a q n e):Tok s q a ⟨2,{data:=#[]},n,a⟩ e:=.inr (.inl ⟨n,h,w,rfl⟩)
theorem Tok.str {s:BA} {q:Bool} {a e:Nat} (h:bt s a=34) (w:zb0 s a e):Tok s q a ⟨3,s.extract (a+1) (e-1),0,a⟩ e:=.inr (.inr (.inl ⟨h,w,rfl⟩))
theorem Tok.sign {s:BA} {q:Bool} {a:Nat} (h:zbo (bt s a)):Tok s q a ⟨4,s.extract a (a+1),0,a⟩ (a+1):=.inr (.inr (.inr ⟨h,rfl,rfl⟩))
theorem Tok.elim {s:BA} {scr:Bool} {a:Nat} {motive:(t:Tk)->(e:Nat)->Tok s scr a t e->Prop} {t:Tk} {e:Nat} (h:Tok s scr a t e) (name: ∀{e:Nat} (h:za2 (bt s a) scr=true) (he:za3 (zM scr) s a e),motive _ e (.name h he)) (num: ∀{n:Int} {e:Nat} (h:zK (bt s a)=true) (he:zba s a scr n e),motive _ e (.num h he)) (str: ∀{e:Nat} (h:bt s a=34) (he:zb0 s a e),motive _ e (.str h he)) (sign: ∀(h:zbo (bt s a)),motive _ _ (.sign h)):motive t e h:=by
 rcases h with ⟨h1,h2,rfl⟩|⟨n,h1,h2,rfl⟩|⟨h1,h2,rfl⟩|⟨h1,rfl,rfl⟩
 ·exact name h1 h2
 ·exact num h1 h2
 ·exact str h1 h2
 ·exact sign h1
theorem ze6 {c:Int} {q:Bool} (h:za2 c q=true):zK c=false/\c≠34/\¬zbo c:=by
 rw[zdZ] at h;refine⟨decide_eq_false (by omega),by omega,by unfold zbo;omega⟩
theorem ze7 {c:Int} (h:zK c=true):c≠34/\¬zbo c:=by
 rw[zcN] at h;exact⟨by omega,by unfold zbo;omega⟩
theorem znt {s:BA} {H:Bool} {a:Nat} {K J:Tk} {L M:Nat} (N:Tok s H a K L) (I:Tok s H a J M):K=J/\L=M:=by
 cases N using Tok.elim with
 |name h A=>
  have z:=ze6 h;cases I using Tok.elim with
  |name q w=>have:=zfm A w;subst this;exact⟨rfl,rfl⟩
  |num q w=>rw[z.1] at q;cases q
  |str q w=>exact absurd q z.2.1
  |sign q=>exact absurd q z.2.2
 |num h A=>
  have z:=ze7 h;cases I using Tok.elim with
  |name q w=>rw[(ze6 q).1] at h;cases h
  |num q w=>obtain⟨rfl,rfl⟩:=znr A w;exact⟨rfl,rfl⟩
  |str q w=>exact absurd q z.1
  |sign q=>exact absurd q z.2
 |str h A=>
  cases I using Tok.elim with
  |name q w=>exact absurd h (ze6 q).2.1
  |num q w=>exact absurd h (ze7 q).1
  |str q w=>have:=zns A w;subst this;exact⟨rfl,rfl⟩
  |sign q=>rw[h] at q;unfold zbo at q;omega
 |sign h=>
  cases I using Tok.elim with
  |name q w=>exact absurd h (ze6 q).2.2
  |num q w=>exact absurd h (ze7 q).2
  |str q w=>rw[q] at h;unfold zbo at h;omega
  |sign q=>exact⟨rfl,rfl⟩
theorem ze8 {s:BA} {w:Bool} {a:Nat} {t:Tk} {e:Nat} (z:a<s.size) (h:Tok s w a t e):a<e/\e<=s.size/\t.pos=a:=by
 cases h using Tok.elim with
 |name h q=>
  refine⟨?_,q.2.1,rfl⟩;rcases Nat.lt_or_ge a e with k|k
  ·exact k
  ·have A:e=a:=by have:=q.1;omega
   subst A;have:=q.2.2.2 z;simp[zM,h] at this
 |num h q=>exact⟨q.2.1,q.1.2.1,rfl⟩
 |str h q=>exact⟨by have:=q.1;omega,q.2.1,rfl⟩
 |sign h=>exact⟨by omega,by omega,rfl⟩
abbrev zcz (s:BA) (a:Nat):Prop:=bt s a=47/\a+1<s.size/\bt s (a+1)=47
def znu (s:BA) (P:Nat->Nat->Prop):Prop:=P s.size s.size/\(∀a,a<s.size->¬zcC (bt s a)->¬zcz s a->P a a)/\(∀a b,a<s.size->zcC (bt s a)->P (a+1) b->P a b)/\∀a c b,a<s.size->zcz s a->za3 zbz s a c->P c b->P a b
def Skip (s:BA) (a b:Nat):Prop:=∀P,znu s P->P a b
theorem Skip.done {s:BA}:Skip s s.size s.size:=fun _ k=>k.1
theorem Skip.stop {s:BA} {a:Nat} (h:a<s.size) (q: ¬zcC (bt s a)) (w: ¬zcz s a):Skip s a a:=fun _ k=>k.2.1 a h q w
theorem Skip.blank {s:BA} {a b:Nat} (h:a<s.size) (q:zcC (bt s a)) (r:Skip s (a+1) b):Skip s a b:=fun P k=>k.2.2.1 a b h q (r P k)
theorem Skip.comment {s:BA} {a c b:Nat} (h:a<s.size) (q:zcz s a) (w:za3 zbz s a c) (r:Skip s c b):Skip s a b:=fun P k=>k.2.2.2 a c b h q w (r P k)
theorem Skip.ind {s:BA} {motive:(a b:Nat)->Skip s a b->Prop} {a b:Nat} (h:Skip s a b) (done:motive _ _ .done) (stop: ∀{a:Nat} (h:a<s.size) (h1: ¬zcC (bt s a)) (h2: ¬zcz s a),motive a a (.stop h h1 h2)) (blank: ∀{a b:Nat} (h:a<s.size) (h1:zcC (bt s a)) (r:Skip s (a+1) b),motive _ _ r->motive a b (.blank h h1 r)) (comment: ∀{a c b:Nat} (h:a<s.size) (h1:zcz s a) (hc:za3 zbz s a c) (r:Skip s c b),motive _ _ r->motive a b (.comment h h1 hc r)):motive a b h:=
 (h (fun a b=>∃k,motive a b k) ⟨⟨_,done⟩,fun _ h h1 h2=>⟨_,stop h h1 h2⟩,fun _ _ h h1 ⟨r,k⟩=>⟨_,blank h h1 r k⟩,fun _ _ _ h h1 hc ⟨r,k⟩=>⟨_,comment h h1 hc r k⟩⟩).2
theorem Skip.elim {s:BA} {motive:(a b:Nat)->Skip s a b->Prop} {a b:Nat} (h:Skip s a b) (done:motive _ _ .done) (stop: ∀{a:Nat} (h:a<s.size) (h1: ¬zcC (bt s a)) (h2: ¬zcz s a),motive a a (.stop h h1 h2)) (blank: ∀{a b:Nat} (h:a<s.size) (h1:zcC (bt s a)) (r:Skip s (a+1) b),motive a b (.blank h h1 r)) (comment: ∀{a c b:Nat} (h:a<s.size) (h1:zcz s a) (hc:za3 zbz s a c) (r:Skip s c b),motive a b (.comment h h1 hc r)):motive a b h:=
 h.ind done stop (fun h h1 r _=>blank h h1 r) (fun h h1 hc r _=>comment h h1 hc r)
theorem zji {s:BA} {a:Nat} (h:zcz s a): ¬zcC (bt s a):=by rw[h.1];unfold zcC;omega
theorem zjj {s:BA} {a I b2:Nat} (J:Skip s a I):Skip s a b2->I=b2:=by
 induction J using Skip.ind with
 |done=>
  intro q;generalize L:s.size=x at q;cases q using Skip.elim with
  |done=>rfl
  |stop h _ _=>omega
  |blank h _ _=>omega
  |comment h _ _ _=>omega
 |stop h w z=>
  intro q;cases q using Skip.elim with
  |done=>rfl
  |stop _ _ _=>rfl
  |blank _ k _=>exact absurd k w
  |comment _ k _ _=>exact absurd k z
 |blank h k _ A=>
  intro q;cases q using Skip.elim with
  |done=>exact absurd h (Nat.lt_irrefl _)
  |stop _ w _=>exact absurd k w
  |blank _ _ r=>exact A r
  |comment _ w _ _=>exact absurd k (zji w)
 |comment h k K _ A=>
  intro q;cases q using Skip.elim with
  |done=>exact absurd h (Nat.lt_irrefl _)
  |stop _ _ z=>exact absurd k z
  |blank _ w _=>exact absurd w (zji k)
  |comment _ _ H r=>have:=zfm K H;subst this;exact A r
theorem zhr {s:BA} {a b:Nat} (h:Skip s a b):a<=b/\b<=s.size:=by
 induction h using Skip.ind with
 |done=>exact⟨Nat.le_refl _,Nat.le_refl _⟩
 |stop h _ _=>exact⟨Nat.le_refl _,by omega⟩
 |blank h _ _ q=>exact⟨by omega,q.2⟩
 |comment h _ w _ q=>exact⟨by have:=w.1;omega,q.2⟩
def LxK (s:BA) (scr:Bool) (P:Nat->Nat->Except Nat (List Tk)->Prop):Prop:=(∀n,P s.size n (.ok []))/\(∀a n,a<s.size->(4000<=n∨∀t e,¬Tok s scr a t e)->P a n (.error a))/\∀a n e b t r,a<s.size->n<4000->Tok s scr a t e->Skip s e b->P b (n+1) r->P a n (r.map (t:: ·))
def Lx (s:BA) (scr:Bool) (a n:Nat) (r:Except Nat (List Tk)):Prop:=∀P,LxK s scr P->P a n r
theorem Lx.done {s:BA} {h:Bool} {n:Nat}:Lx s h s.size n (.ok []):=fun _ k=>k.1 n
theorem Lx.bad {s:BA} {q:Bool} {a n:Nat} (h:a<s.size) (w:4000<=n∨∀t e,¬Tok s q a t e):Lx s q a n (.error a):=fun _ k=>k.2.1 a n h w
theorem Lx.tok {s:BA} {q:Bool} {a n e b:Nat} {t:Tk} {r:Except Nat (List Tk)} (h:a<s.size) (H:n<4000) (z:Tok s q a t e) (A:Skip s e b) (w:Lx s q b (n+1) r):Lx s q a n (r.map (t:: ·)):=fun P k=>k.2.2 a n e b t r h H z A (w P k)
theorem Lx.ind {s:BA} {scr:Bool} {motive:(a n:Nat)->(r:Except Nat (List Tk))->Lx s scr a n r->Prop} {a n:Nat} {r:Except Nat (List Tk)} (h:Lx s scr a n r) (done: ∀{n:Nat},motive _ n _ .done) (bad: ∀{a n:Nat} (h:a<s.size) (h1:4000<=n∨∀t e,¬Tok s scr a t e),motive a n _ (.bad h h1)) (tok: ∀{a n e b:Nat} {t:Tk} {r:Except Nat (List Tk)} (h:a<s.size) (hn:n<4000) (ht:Tok s scr a t e) (hs:Skip s e b) (hr:Lx s scr b (n+1) r),motive _ _ _ hr->motive a n _ (.tok h hn ht hs hr)):motive a n r h:=
 (h (fun a n r=>∃k,motive a n r k) ⟨fun _=>⟨_,done⟩,fun _ _ h h1=>⟨_,bad h h1⟩,fun _ _ _ _ _ _ h hn ht hs ⟨hr,k⟩=>⟨_,tok h hn ht hs hr k⟩⟩).2
theorem Lx.elim {s:BA} {scr:Bool} {motive:(a n:Nat)->(r:Except Nat (List Tk))->Lx s scr a n r->Prop} {a n:Nat} {r:Except Nat (List Tk)} (h:Lx s scr a n r) (done: ∀{n:Nat},motive _ n _ .done) (bad: ∀{a n:Nat} (h:a<s.size) (h1:4000<=n∨∀t e,¬Tok s scr a t e),motive a n _ (.bad h h1)) (tok: ∀{a n e b:Nat} {t:Tk} {r:Except Nat (List Tk)} (h:a<s.size) (hn:n<4000) (ht:Tok s scr a t e) (hs:Skip s e b) (hr:Lx s scr b (n+1) r),motive a n _ (.tok h hn ht hs hr)):motive a n r h:=
 h.ind done bad (fun h hn ht hs hr _=>tok h hn ht hs hr)
theorem znv {s:BA} {w:Bool} {a n:Nat} {J H:Except Nat (List Tk)} (L:Lx s w a n J):Lx s w a n H->J=H:=by
 induction L using Lx.ind generalizing H with
 |done=>
  intro q;generalize O:s.size=x at q;cases q using Lx.elim with
  |done=>rfl
  |bad h _=>omega
  |tok h _ _ _ _=>omega
 |bad h k=>
  intro q;cases q using Lx.elim with
  |done=>exact absurd h (Nat.lt_irrefl _)
  |bad _ _=>rfl
  |tok _ N z _ _=>exact k.elim (fun k=>by omega) fun k=>absurd z (k _ _)
 |tok h N z M _ K=>
  intro q;cases q using Lx.elim with
  |done=>exact absurd h (Nat.lt_irrefl _)
  |bad _ k=>exact k.elim (fun k=>by omega) fun k=>absurd z (k _ _)
  |tok _ _ A I r=>
   obtain⟨rfl,rfl⟩:=znt z A;have:=zjj M I;subst this;rw[K r]
def zak (s:BA) (scr:Bool) (r:Except Nat (List Tk)):Prop:=∃a,Skip s 0 a/\Lx s scr a 0 r
theorem znw {s:BA} {h:Bool} {w q:Except Nat (List Tk)} (J:zak s h w) (A:zak s h q):w=q:=by
 obtain⟨a,K,H⟩:=J;obtain⟨b,z,I⟩:=A;have:=zjj K z;subst this;exact znv H I
structure Ex where
 kind:Int
 num:Int
 name:BA
 field:BA
 l:Int
 r:Int
structure Sm where
 kind:Int
 name:BA
 expr:Int
structure Im where
 spec:BA
 first:BA
 loc:BA
structure Ep where
 kind:Int
 name:BA
 loc:BA
 spec:BA
structure Cx where
 ts:List Tk
 fin:Nat
 scr:Bool
structure PS where
 pos:Nat
 rq:List BA
 im:List Im
 ep:List Ep
 st:List Sm
 ex:List Ex
 la:List Ep
abbrev PR:=Except Nat PS
abbrev zam:BA:={data:=#[105,109,112,111,114,116]}
abbrev zal:BA:={data:=#[101,120,112,111,114,116]}
abbrev sDefault:BA:={data:=#[100,101,102,97,117,108,116]}
abbrev zG:BA:={data:=#[108,101,116]}
abbrev zV:BA:={data:=#[102,117,110,99,116,105,111,110]}
abbrev ze9:BA:={data:=#[114,101,116,117,114,110]}
abbrev zaz:BA:={data:=#[112,114,105,110,116]}
abbrev zaC:BA:={data:=#[116,104,114,111,119]}
abbrev zbT:BA:={data:=#[102,97,105,108]}
abbrev zaG:BA:={data:=#[117,110,100,101,102]}
abbrev sAs:BA:={data:=#[97,115]}
abbrev zW:BA:={data:=#[102,114,111,109]}
abbrev zcp:BA:={data:=#[42,100,101,102,97,117,108,116]}
abbrev zp:BA:={data:=#[40]}
abbrev za8:BA:={data:=#[41]}
abbrev zy:BA:={data:=#[42]}
abbrev zc0:BA:={data:=#[43]}
abbrev zbF:BA:={data:=#[44]}
abbrev zbp:BA:={data:=#[45]}
abbrev cPoint:BA:={data:=#[46]}
abbrev cSemi:BA:={data:=#[59]}
abbrev cEq:BA:={data:=#[61]}
abbrev zN:BA:={data:=#[123]}
abbrev zb1:BA:={data:=#[125]}
def bd {α β:Type} (x:Except Nat α) (f:α->Except Nat β):Except Nat β:=
 match x with
 | .ok a=>f a
 | .error e=>.error e
theorem zA {α β:Type} (a:α) (f:α->Except Nat β):bd (.ok a) f=f a:=rfl
theorem zeA {α β:Type} (e:Nat) (f:α->Except Nat β):bd (.error e) f= .error e:=rfl
theorem zP {α β γ:Type} (x:Except Nat α) (f:α->Except Nat β) (g:β->Except Nat γ):bd (bd x f) g=bd x fun a=>bd (f a) g:=by cases x<;>rfl
theorem zag {α β:Type} {x:Except Nat α} {f g:α->Except Nat β} (h: ∀a,x= .ok a->f a=g a):bd x f=bd x g:=by
 cases x with
 |ok a=>exact h a rfl
 |error e=>rfl
theorem zn {α β:Type} {x:Except Nat α} {f:α->Except Nat β} {b:β} (h:bd x f= .ok b): ∃a,x= .ok a/\f a= .ok b:=by
 cases x with
 |ok a=>exact⟨a,rfl,h⟩
 |error e=>cases h
def ze (C:Cx) (i:Nat):Tk:=C.ts.getD i ⟨0,sNone,0,C.fin⟩
def zs (C:Cx) (i:Nat):Nat:=(ze C i).pos
def isT (C:Cx) (i:Nat) (k:Int) (x:BA):Bool:=((ze C i).kind==k)&&((ze C i).text.toList==x.toList)
def adv (q:PS):PS:={q with pos:=q.pos+1}
def zd (C:Cx) (k:Int) (x:BA) (q:PS):PR:=if isT C q.pos k x then .ok (adv q) else .error (zs C q.pos)
def zu (x:BA) (scr:Bool):Bool:=
 x.toList==[105,109,112,111,114,116]||x.toList==[101,120,112,111,114,116]||x.toList==[100,101,102,97,117,108,116]||x.toList==[108,101,116]||x.toList==[102,117,110,99,116,105,111,110]||x.toList==[114,101,116,117,114,110]||x.toList==[112,114,105,110,116]||x.toList==[116,104,114,111,119]
  ||((x.toList==[102,97,105,108]||x.toList==[117,110,100,101,102])&&scr)
def zH (C:Cx) (i:Nat) (o:Bool):Bool:=((ze C i).kind==1)&&(!zu (ze C i).text C.scr||(o&&((ze C i).text.toList==[100,101,102,97,117,108,116])))
def zm (C:Cx) (o:Bool) (q:PS):Except Nat (PS×BA):=if zH C q.pos o then .ok (adv q,(ze C q.pos).text) else .error (zs C q.pos)
def zaS (l:List BA) (x:BA):Bool:=l.any fun y=>y.toList==x.toList
def zL (C:Cx) (q:PS):Except Nat (PS×BA):=
 if (ze C q.pos).kind==3 then
  if zaS q.rq (ze C q.pos).text then .ok (adv q,(ze C q.pos).text)
  else if 40<=q.rq.length then .error (zs C q.pos)
  else .ok ({adv q with rq:=q.rq++[(ze C q.pos).text]},(ze C q.pos).text)
 else .error (zs C q.pos)
def zan (C:Cx) (x:Im) (q:PS):PR:=if 40<=q.im.length then .error (zs C (q.pos-1)) else .ok {q with im:=q.im++[x]}
def zq (C:Cx) (x:Ep) (q:PS):PR:=
 if 40<=q.ep.length+q.la.length then .error (zs C (q.pos-1))
 else if x.loc.toList==[42,100,101,102,97,117,108,116] then .ok {q with la:=q.la++[x]} else .ok {q with ep:=q.ep++[x]}
def zY (C:Cx) (k:Int) (n:BA) (q:PS):PR:=if 80<=q.st.length then .error (zs C (q.pos-1)) else .ok {q with st:=q.st++[⟨k,n,(q.ex.length:Int)-1⟩]}
def zR (C:Cx) (x:Ex) (q:PS):PR:=if 300<=q.ex.length then .error (zs C (q.pos-1)) else .ok {q with ex:=q.ex++[x]}
def zbG (C:Cx) (n:BA) (q:PS):PR:=
 if isT C q.pos 4 zp then bd (bd (zd C 4 zp q) (zd C 4 za8)) (zR C ⟨3,0,n,sNone,0,0⟩) else zR C ⟨2,0,n,sNone,0,0⟩ q
def zbU (C:Cx) (n f:BA) (q:PS):PR:=
 if isT C q.pos 4 zp then bd (bd (zd C 4 zp q) (zd C 4 za8)) (zR C ⟨5,0,n,f,0,0⟩) else zR C ⟨4,0,n,f,0,0⟩ q
abbrev NT:Type:=Option (Option (Option (Option Unit)))
abbrev NT.sum:NT:=none
abbrev NT.sumT:NT:=some none
abbrev NT.prod:NT:=some (some none)
abbrev NT.prodT:NT:=some (some (some none))
abbrev NT.part:NT:=some (some (some (some ())))
theorem NT.elim {motive:NT->Prop} (nt:NT) (sum:motive .sum) (sumT:motive .sumT) (prod:motive .prod) (prodT:motive .prodT) (part:motive .part):motive nt:=
 match nt with
 |none=>sum
 |some none=>sumT
 |some (some none)=>prod
 |some (some (some none))=>prodT
 |some (some (some (some ())))=>part
def zd2 (C:Cx) (i:Nat):Int:=if isT C i 4 zbp then 7 else 6
def ev (C:Cx):Nat->NT->Nat->PS->PR
 |0,_,_,_=>.error 0
 |f+1,none,d,q=>bd (ev C f .prod d q) (ev C f .sumT d)
 |f+1,some none,d,q=>
  if isT C q.pos 4 zc0||isT C q.pos 4 zbp then
   bd (bd (ev C f .prod d (adv q)) fun q'=>zR C ⟨zd2 C q.pos,0,sNone,sNone,(q.ex.length:Int)-1,(q'.ex.length:Int)-1⟩ q') (ev C f .sumT d)
  else .ok q
 |f+1,some (some none),d,q=>bd (ev C f .part d q) (ev C f .prodT d)
 |f+1,some (some (some none)),d,q=>
  if isT C q.pos 4 zy then
   bd (bd (ev C f .part d (adv q)) fun q'=>zR C ⟨8,0,sNone,sNone,(q.ex.length:Int)-1,(q'.ex.length:Int)-1⟩ q') (ev C f .prodT d)
  else .ok q
 |f+1,some (some (some (some ()))),d,q=>
  if (ze C q.pos).kind==2 then zR C ⟨1,(ze C q.pos).num,sNone,sNone,0,0⟩ (adv q)
  else if isT C q.pos 4 zp then
   if 20<=d then .error (zs C q.pos) else bd (ev C f .sum (d+1) (adv q)) (zd C 4 za8)
  else if C.scr&&isT C q.pos 1 zaG then zbG C zaG (adv q)
  else bd (zm C false q) fun x=>if isT C x.1.pos 4 cPoint then bd (zm C true (adv x.1)) fun y=>zbU C x.2 y.2 y.1 else zbG C x.2 x.1
def nd (C:Cx) (nt:NT) (q:PS):Nat:=
 5*(C.ts.length-q.pos)+match nt with
  | .sum=>3
  | .prod=>2
  |_=>1
def pE (C:Cx) (nt:NT) (d:Nat) (q:PS):PR:=ev C (nd C nt q) nt d q
theorem zea {C:Cx} {i:Nat} (h:C.ts.length<=i):ze C i=⟨0,sNone,0,C.fin⟩:=by simp[ze,List.getD,List.getElem?_eq_none h]
theorem za9 {C:Cx} {i:Nat} {k:Int} {x:BA} (h:isT C i k x=true) (q:k≠0):i<C.ts.length:=by
 rcases Nat.lt_or_ge i C.ts.length with g|g
 ·exact g
 ·simp only[isT,zea g,Bool.and_eq_true,beq_iff_eq] at h;exact absurd h.1.symm q
theorem zga {C:Cx} {i:Nat} {k:Int} (h:((ze C i).kind==k)=true) (q:k≠0):i<C.ts.length:=by
 rcases Nat.lt_or_ge i C.ts.length with g|g
 ·exact g
 ·simp only[zea g,beq_iff_eq] at h;exact absurd h.symm q
theorem zfn {C:Cx} {i:Nat} {o:Bool} (h:zH C i o=true):i<C.ts.length:=by
 simp only[zH,Bool.and_eq_true] at h;exact zga h.1 (by decide)
theorem zbV {C:Cx} {k:Int} {x:BA} {q q':PS} (h:zd C k x q= .ok q'):q'=adv q/\isT C q.pos k x=true:=by
 unfold zd at h
 split at h
 ·next g=>exact⟨by cases h;rfl,g⟩
 ·cases h
theorem zb2 {C:Cx} {o:Bool} {q:PS} {y:PS×BA} (h:zm C o q= .ok y):y=(adv q,(ze C q.pos).text)/\zH C q.pos o=true:=by
 unfold zm at h
 split at h
 ·next g=>exact⟨by cases h;rfl,g⟩
 ·cases h
theorem zb3 {C:Cx} {x:Ex} {q q':PS} (h:zR C x q= .ok q'):q'={q with ex:=q.ex++[x]}/\q.ex.length<300:=by
 unfold zR at h
 split at h
 ·cases h
 ·cases h;exact⟨rfl,by omega⟩
theorem zz (q:PS):(adv q).pos=q.pos+1:=rfl
theorem zjk {C:Cx} {n:BA} {q q':PS} (h:zbG C n q= .ok q'):q.pos<=q'.pos:=by
 unfold zbG at h
 split at h
 ·obtain⟨a,w,z⟩:=zn h;obtain⟨b,H,A⟩:=zn w;obtain⟨rfl,_⟩:=zbV H;obtain⟨rfl,_⟩:=zbV A;obtain⟨rfl,_⟩:=zb3 z;show q.pos<=q.pos+1+1;omega
 ·obtain⟨rfl,_⟩:=zb3 h;exact Nat.le_refl _
theorem znx {C:Cx} {n f:BA} {q q':PS} (h:zbU C n f q= .ok q'):q.pos<=q'.pos:=by
 unfold zbU at h
 split at h
 ·obtain⟨a,w,z⟩:=zn h;obtain⟨b,H,A⟩:=zn w;obtain⟨rfl,_⟩:=zbV H;obtain⟨rfl,_⟩:=zbV A;obtain⟨rfl,_⟩:=zb3 z;show q.pos<=q.pos+1+1;omega
 ·obtain⟨rfl,_⟩:=zb3 h;exact Nat.le_refl _
theorem zfo {C:Cx} (f:Nat): ∀(K:NT) (d:Nat) (q q':PS),ev C f K d q= .ok q'->q.pos<=q'.pos:=by
 induction f with
 |zero=>intro K d q q' h;cases K using NT.elim<;>cases h
 |succ f H=>
  intro K d q q' h;cases K using NT.elim with
  |sum=>
   rw[ev] at h;obtain⟨a,A,w⟩:=zn h;exact Nat.le_trans (H _ _ _ _ A) (H _ _ _ _ w)
  |prod=>
   rw[ev] at h;obtain⟨a,A,w⟩:=zn h;exact Nat.le_trans (H _ _ _ _ A) (H _ _ _ _ w)
  |sumT=>
   rw[ev] at h
   split at h
   ·obtain⟨a,A,w⟩:=zn h;obtain⟨b,L,J⟩:=zn A;obtain⟨rfl,_⟩:=zb3 J;have I:=H _ _ _ _ L;have M:=H _ _ _ _ w;rw[zz] at I;exact Nat.le_trans (by omega:q.pos<=b.pos) M
   ·cases h;exact Nat.le_refl _
  |prodT=>
   rw[ev] at h
   split at h
   ·obtain⟨a,A,w⟩:=zn h;obtain⟨b,L,J⟩:=zn A;obtain⟨rfl,_⟩:=zb3 J;have I:=H _ _ _ _ L;have M:=H _ _ _ _ w;rw[zz] at I;exact Nat.le_trans (by omega:q.pos<=b.pos) M
   ·cases h;exact Nat.le_refl _
  |part=>
   rw[ev] at h
   split at h
   ·obtain⟨rfl,_⟩:=zb3 h;show q.pos<=q.pos+1;omega
   ·split at h
    ·split at h
     ·cases h
     ·obtain⟨a,A,w⟩:=zn h;obtain⟨rfl,_⟩:=zbV w;have I:=H _ _ _ _ A;rw[zz] at I ⊢;omega
    ·split at h
     ·have:=zjk h;rw[zz] at this;omega
     ·obtain⟨y,A,w⟩:=zn h;obtain⟨rfl,_⟩:=zb2 A;simp only at w
      split at w
      ·obtain⟨z,L,J⟩:=zn w;obtain⟨rfl,_⟩:=zb2 L;have:=znx J;simp only[zz] at this;omega
      ·have:=zjk w;rw[zz] at this;omega
theorem zny {C:Cx} (f:Nat): ∀(g:Nat) (z:NT) (d:Nat) (q:PS),nd C z q<=f->nd C z q<=g->ev C f z d q=ev C g z d q:=by
 induction f with
 |zero=>intro g z d q h;unfold nd at h;cases z using NT.elim<;>simp at h
 |succ f w=>
  intro g z d q K H;obtain⟨g,rfl⟩: ∃N,g=N+1:=by
   match g with
   |0=>unfold nd at H;cases z using NT.elim<;>simp at H
   |g+1=>exact⟨g,rfl⟩
  cases z using NT.elim with
  |sum=>
   simp only[nd] at K H;rw[ev,ev,w g .prod d q (by simp only[nd];omega) (by simp only[nd];omega)];refine zag fun a A=>?_;have:=zfo _ _ _ _ _ A;exact w g .sumT d a (by simp only[nd];omega) (by simp only[nd];omega)
  |prod=>
   simp only[nd] at K H;rw[ev,ev,w g .part d q (by simp only[nd];omega) (by simp only[nd];omega)];refine zag fun a A=>?_;have:=zfo _ _ _ _ _ A;exact w g .prodT d a (by simp only[nd];omega) (by simp only[nd];omega)
  |sumT=>
   simp only[nd] at K H;rw[ev,ev]
   split
   ·next I=>
    have J:q.pos<C.ts.length:=by
     rw[Bool.or_eq_true] at I;exact I.elim (fun k=>za9 k (by decide)) fun k=>za9 k (by decide)
    rw[w g .prod d (adv q) (by simp only[nd,zz];omega) (by simp only[nd,zz];omega)];refine zag fun a A=>?_;obtain⟨b,M,L⟩:=zn A;obtain⟨rfl,_⟩:=zb3 L;have:=zfo _ _ _ _ _ M;rw[zz] at this;exact w g .sumT d _ (by simp only[nd];omega) (by simp only[nd];omega)
   ·rfl
  |prodT=>
   simp only[nd] at K H;rw[ev,ev]
   split
   ·next I=>
    have J:q.pos<C.ts.length:=za9 I (by decide);rw[w g .part d (adv q) (by simp only[nd,zz];omega) (by simp only[nd,zz];omega)];refine zag fun a A=>?_;obtain⟨b,M,L⟩:=zn A;obtain⟨rfl,_⟩:=zb3 L;have:=zfo _ _ _ _ _ M;rw[zz] at this;exact w g .prodT d _ (by simp only[nd];omega) (by simp only[nd];omega)
   ·rfl
  |part=>
   simp only[nd] at K H;rw[ev,ev]
   split
   ·rfl
   ·split
    ·next I=>
     have J:q.pos<C.ts.length:=za9 I (by decide)
     split
     ·rfl
     ·rw[w g .sum (d+1) (adv q) (by simp only[nd,zz];omega) (by simp only[nd,zz];omega)]
    ·rfl
theorem zdd {C:Cx} {f d:Nat} {w:NT} {q:PS} (h:nd C w q<=f):ev C f w d q=pE C w d q:=zny f _ w d q h (Nat.le_refl _)
theorem zbh {C:Cx} {w:NT} {d:Nat} {q q':PS} (h:pE C w d q= .ok q'):q.pos<=q'.pos:=zfo _ _ _ _ _ h
theorem zfp {C:Cx} {h:NT} {d:Nat} {q:PS}:pE C h d q=ev C (nd C h q+1) h d q:=(zdd (Nat.le_succ _)).symm
theorem zjl (C:Cx) (d:Nat) (q:PS):pE C .sum d q=bd (pE C .prod d q) (pE C .sumT d):=by
 rw[zfp,ev,zdd (by simp only[nd];omega)];refine zag fun a h=>?_;have:=zbh h;exact zdd (by simp only[nd];omega)
theorem zjm (C:Cx) (d:Nat) (q:PS):pE C .prod d q=bd (pE C .part d q) (pE C .prodT d):=by
 rw[zfp,ev,zdd (by simp only[nd];omega)];refine zag fun a h=>?_;have:=zbh h;exact zdd (by simp only[nd];omega)
theorem zfq (C:Cx) (d:Nat) (q:PS):pE C .sumT d q=
  if isT C q.pos 4 zc0||isT C q.pos 4 zbp then
   bd (bd (pE C .prod d (adv q)) fun q'=>zR C ⟨zd2 C q.pos,0,sNone,sNone,(q.ex.length:Int)-1,(q'.ex.length:Int)-1⟩ q') (pE C .sumT d)
  else .ok q:=by
 rw[zfp,ev]
 split
 ·next h=>
  have w:q.pos<C.ts.length:=by
   rw[Bool.or_eq_true] at h;exact h.elim (fun k=>za9 k (by decide)) fun k=>za9 k (by decide)
  rw[zdd (by simp only[nd,zz];omega)];refine zag fun a z=>?_;obtain⟨b,H,A⟩:=zn z;obtain⟨rfl,_⟩:=zb3 A;have:=zbh H;rw[zz] at this;exact zdd (by simp only[nd];omega)
 ·rfl
theorem zgb (C:Cx) (d:Nat) (q:PS):pE C .prodT d q=
  if isT C q.pos 4 zy then
   bd (bd (pE C .part d (adv q)) fun q'=>zR C ⟨8,0,sNone,sNone,(q.ex.length:Int)-1,(q'.ex.length:Int)-1⟩ q') (pE C .prodT d)
  else .ok q:=by
 rw[zfp,ev]
 split
 ·next H=>
  have h:q.pos<C.ts.length:=za9 H (by decide);rw[zdd (by simp only[nd,zz];omega)];refine zag fun a w=>?_;obtain⟨b,A,z⟩:=zn w;obtain⟨rfl,_⟩:=zb3 z;have:=zbh A;rw[zz] at this;exact zdd (by simp only[nd];omega)
 ·rfl
theorem zbO (C:Cx) (d:Nat) (q:PS):pE C .part d q=
  if (ze C q.pos).kind==2 then zR C ⟨1,(ze C q.pos).num,sNone,sNone,0,0⟩ (adv q)
  else if isT C q.pos 4 zp then
   if 20<=d then .error (zs C q.pos) else bd (pE C .sum (d+1) (adv q)) (zd C 4 za8)
  else if C.scr&&isT C q.pos 1 zaG then zbG C zaG (adv q)
  else bd (zm C false q) fun x=>if isT C x.1.pos 4 cPoint then bd (zm C true (adv x.1)) fun y=>zbU C x.2 y.2 y.1 else zbG C x.2 x.1:=by
 rw[zfp,ev]
 split
 ·rfl
 ·split
  ·next h=>
   have w:q.pos<C.ts.length:=za9 h (by decide)
   split
   ·rfl
   ·rw[zdd (by simp only[nd,zz];omega)]
  ·rfl
theorem zfr (k:Nat):(0:Int)<10^k:=Int.pow_pos (by omega)
theorem zeb (k:Nat):(10:Int)^(k+1)=10^k*10:=Int.pow_succ _ _
theorem zfs {a b:Nat} (h:a<=b):(10:Int)^a<=10^b:=by
 induction b with
 |zero=>
  obtain rfl:a=0:=by omega
  exact Int.le_refl _
 |succ b q=>
  by_cases e:a=b+1
  ·rw[e];exact Int.le_refl _
  ·have:=q (by omega);have:=zfr b;rw[zeb];omega
theorem zeB (n:Int) (k:Nat):n/10^k/10=n/10^(k+1):=by
 rw[zeb,Int.ediv_ediv_of_nonneg (Int.le_of_lt (zfr k))]
theorem zeC (n:Int) (k:Nat) (h:0<=n):0<=n/10^k/\n/10^k<=n:=
 ⟨Int.ediv_nonneg h (Int.le_of_lt (zfr k)),Int.ediv_le_self _ h⟩
def dc:Nat->Int->Nat
 |0,_=>1
 |f+1,q=>if q<10 then 1 else dc f (q/10)+1
theorem znz (f:Nat) (q:Int) (A:0<=q) (h:q<10^(f+1)):1<=dc f q/\dc f q<=f+1/\q<10^dc f q/\(dc f q=1∨10^(dc f q-1)<=q):=by
 induction f generalizing q with
 |zero=>simpa [dc] using h
 |succ f z=>
  unfold dc;by_cases w:q<10
  ·rw[if_pos w];exact⟨by omega,by omega,by simpa using w,.inl rfl⟩
  ·rw[if_neg w];obtain⟨a,b,c,d⟩:=z (q/10) (by omega) (by rw[zeb] at h;omega);refine⟨by omega,by omega,?_,.inr ?_⟩
   ·rw[zeb];omega
   ·rw[Nat.add_sub_cancel];rcases d with d|d
    ·rw[d];show (10:Int)^1<=q;rw[show (10:Int)^1=10 from by decide];omega
    ·rw[show dc f (q/10)=(dc f (q/10)-1)+1 from by omega,zeb];omega
def dcn (m:Int):Nat:=dc 19 m
theorem zd3 (m:Int) (q:0<=m) (h:m<=18446744073709551615):1<=dcn m/\dcn m<=20/\m<10^dcn m/\(dcn m=1∨10^(dcn m-1)<=m):=
 znz 19 m q (by rw[show (10:Int)^(19+1)=100000000000000000000 by decide];omega)
theorem zn0 (m:Int) (w:0<=m) (h:m<=18446744073709551615) (k:Nat):10<=m/10^k↔k+1<dcn m:=by
 obtain⟨a,b,c,d⟩:=zd3 m w h;rw[Int.le_ediv_iff_mul_le (zfr k),Int.mul_comm,<-zeb];constructor
 ·intro q;rcases Nat.lt_or_ge (k+1) (dcn m) with e|e
  ·exact e
  ·have:=zfs e;omega
 ·intro q;have:=zfs (show k+1<=dcn m-1 by omega);omega
theorem zjn (m:Int) (w:1<=m) (h:m<=18446744073709551615) (k:Nat):m/10^k≠0↔k<dcn m:=by
 obtain⟨a,b,c,d⟩:=zd3 m (by omega) h;have z:=zeC m k (by omega);have:m/10^k≠0↔1<=m/10^k:=by omega
 rw[this,Int.le_ediv_iff_mul_le (zfr k),Int.one_mul];constructor
 ·intro q;rcases Nat.lt_or_ge k (dcn m) with e|e
  ·exact e
  ·have:=zfs e;omega
 ·intro q;have:=zfs (show k<=dcn m-1 by omega);rcases d with d|d
  ·obtain rfl:k=0:=by omega
   simpa using w
  ·omega
def dgk (m:Int):Nat->List Int
 |0=>[]
 |k+1=>(48+m/10^k%10)::dgk m k
theorem zcD (m:Int) (k:Nat):(dgk m k).length=k:=by
 induction k with
 |zero=>rfl
 |succ k h=>simp[dgk,h]
theorem zjo (m:Int) (c k:Nat) (h:k<c):(dgk m c)[c-1-k]? =some (48+m/10^k%10):=by
 induction c with
 |zero=>omega
 |succ c q=>
  by_cases e:k=c
  ·subst e;rw[show k+1-1-k=0 from by omega];rfl
  ·rw[show c+1-1-k=(c-1-k)+1 from by omega,dgk,List.getElem?_cons_succ];exact q (by omega)
def zgc (n:Int):Int:=if n<0 then-n else n
def zbW (n:Int):List Int:=(if n<0 then [45] else [])++dgk (zgc n) (dcn (zgc n))
theorem zhs {n:Int} (h:n<0):zbW n=45::dgk (-n) (dcn (-n)):=by simp[zbW,h,zgc]
theorem zht {n:Int} (h:0<=n):zbW n=dgk n (dcn n):=by
 have: ¬n<0:=by omega
 simp[zbW,this,zgc]
theorem zn1 (L:List Int):zcM L L.length=L:=by simp[zcM]
theorem zn2 (x:Int) (L:List Int):(zcM (x::L) L.length).set 0 x=x::L:=by
 simp[zcM]
theorem zn3 (p:List Int) (m:Int) (c k:Nat) (h:k<c):(p++dgk m c)[(p++dgk m c).length-1-k]? =some (48+m/10^k%10):=by
 rw[List.length_append,zcD,List.getElem?_append_right (by omega),show p.length+c-1-k-p.length=c-1-k from by omega];exact zjo m c k h
structure Md where
 rq:List BA
 im:List Im
 ep:List Ep
 st:List Sm
 ex:List Ex
def zeD (q:PS):Md:=⟨q.rq,q.im,q.ep++q.la,q.st,q.ex⟩
def zQ (k:Int):Bool:=k==6||k==7
def zaa (k:Int):Bool:=k==6||k==7||k==8
def zh:Ex:=⟨0,0,sNone,sNone,0,0⟩
abbrev cParens:BA:={data:=#[40,41]}
abbrev tPlus:BA:={data:=#[32,43,32]}
abbrev tMinus:BA:={data:=#[32,45,32]}
abbrev tStar:BA:={data:=#[32,42,32]}
def zJ (b:Bool) (t:BA):BA:=if b then zp++t++za8 else t
def prE (ex:List Ex):Nat->Nat->BA
 |0,_=>sNone
 |f+1,i=>
  let x:=ex.getD i zh
  if x.kind==1 then strOfNums (zbW x.num)
  else if x.kind==2 then x.name
  else if x.kind==3 then x.name++cParens
  else if x.kind==4 then x.name++cPoint++x.field
  else if x.kind==5 then x.name++cPoint++x.field++cParens
  else if x.kind==6 then prE ex f x.l.toNat++tPlus++zJ (zQ (ex.getD x.r.toNat zh).kind) (prE ex f x.r.toNat)
  else if x.kind==7 then prE ex f x.l.toNat++tMinus++zJ (zQ (ex.getD x.r.toNat zh).kind) (prE ex f x.r.toNat)
  else if x.kind==8 then zJ (zQ (ex.getD x.l.toNat zh).kind) (prE ex f x.l.toNat)++tStar++zJ (zaa (ex.getD x.r.toNat zh).kind) (prE ex f x.r.toNat)
  else sNone
def prX (ex:List Ex) (i:Nat):BA:=prE ex (i+1) i
def zb4 (ex:List Ex):Prop:=∀(i:Nat) (x:Ex),ex[i]? =some x->zaa x.kind=true->0<=x.l/\x.l<(i:Int)/\0<=x.r/\x.r<(i:Int)
theorem zbH {k:Int} (h:(k==6)=true∨(k==7)=true∨(k==8)=true):zaa k=true:=by
 unfold zaa;rcases h with h|h|h<;>simp[h]
theorem zgd {ex:List Ex} (h:zb4 ex) {i:Nat} (q:zaa (ex.getD i zh).kind=true):0<=(ex.getD i zh).l/\(ex.getD i zh).l<(i:Int)/\0<=(ex.getD i zh).r/\(ex.getD i zh).r<(i:Int):=by
 by_cases w:i<ex.length
 ·have e:ex.getD i zh=ex[i]:=by simp[List.getD,List.getElem?_eq_getElem w]
  rw[e] at q ⊢;exact h i _ (List.getElem?_eq_getElem w) q
 ·have e:ex.getD i zh=zh:=by simp[List.getD,List.getElem?_eq_none (by omega:ex.length<=i)]
  rw[e] at q;exact absurd q (by decide)
theorem zjp {ex:List Ex} (h:zb4 ex) (f:Nat): ∀(g i:Nat),i<f->i<g->prE ex f i=prE ex g i:=by
 induction f with
 |zero=>intro g i N;omega
 |succ f I=>
  intro g i M L;obtain⟨g,rfl⟩: ∃K,g=K+1:=⟨g-1,by omega⟩;rw[prE,prE];have J:=fun w=>zgd h (i:=i) w;generalize ex.getD i zh=x at J ⊢;have q: ∀w:zaa x.kind=true,prE ex f x.l.toNat=prE ex g x.l.toNat/\prE ex f x.r.toNat=prE ex g x.r.toNat:=fun w=>by
   have:=J w;exact⟨I g _ (by omega) (by omega),I g _ (by omega) (by omega)⟩
  by_cases z:(x.kind==6)=true
  ·rw[(q (zbH (.inl z))).1,(q (zbH (.inl z))).2]
  ·by_cases H:(x.kind==7)=true
   ·rw[(q (zbH (.inr (.inl H)))).1,(q (zbH (.inr (.inl H)))).2]
   ·by_cases A:(x.kind==8)=true
    ·rw[(q (zbH (.inr (.inr A)))).1,(q (zbH (.inr (.inr A)))).2]
    ·simp only[z,H,A,Bool.false_eq_true,↓reduceIte]
theorem zhu {ex:List Ex} (h:zb4 ex) (i:Nat):prX ex i=
  if (ex.getD i zh).kind==1 then strOfNums (zbW (ex.getD i zh).num)
  else if (ex.getD i zh).kind==2 then (ex.getD i zh).name
  else if (ex.getD i zh).kind==3 then (ex.getD i zh).name++cParens
  else if (ex.getD i zh).kind==4 then (ex.getD i zh).name++cPoint++(ex.getD i zh).field
  else if (ex.getD i zh).kind==5 then (ex.getD i zh).name++cPoint++(ex.getD i zh).field++cParens
  else if (ex.getD i zh).kind==6 then prX ex (ex.getD i zh).l.toNat++tPlus++zJ (zQ (ex.getD (ex.getD i zh).r.toNat zh).kind) (prX ex (ex.getD i zh).r.toNat)
  else if (ex.getD i zh).kind==7 then prX ex (ex.getD i zh).l.toNat++tMinus++zJ (zQ (ex.getD (ex.getD i zh).r.toNat zh).kind) (prX ex (ex.getD i zh).r.toNat)
  else if (ex.getD i zh).kind==8 then zJ (zQ (ex.getD (ex.getD i zh).l.toNat zh).kind) (prX ex (ex.getD i zh).l.toNat)++tStar++zJ (zaa (ex.getD (ex.getD i zh).r.toNat zh).kind) (prX ex (ex.getD i zh).r.toNat)
  else sNone:=by
 rw[prX,prE];have I:=fun w=>zgd h (i:=i) w;generalize ex.getD i zh=x at I ⊢;have q: ∀w:zaa x.kind=true,prE ex i x.l.toNat=prX ex x.l.toNat/\prE ex i x.r.toNat=prX ex x.r.toNat:=fun w=>by
  have:=I w;exact⟨zjp h _ _ _ (by omega) (by omega),zjp h _ _ _ (by omega) (by omega)⟩
 by_cases z:(x.kind==6)=true
 ·rw[(q (zbH (.inl z))).1,(q (zbH (.inl z))).2]
 ·by_cases H:(x.kind==7)=true
  ·rw[(q (zbH (.inr (.inl H)))).1,(q (zbH (.inr (.inl H)))).2]
  ·by_cases A:(x.kind==8)=true
   ·rw[(q (zbH (.inr (.inr A)))).1,(q (zbH (.inr (.inr A)))).2]
   ·simp only[z,H,A,Bool.false_eq_true,↓reduceIte]
def zat (ex:List Ex) (k:Int):Nat:=(ex.map fun x=>if zaa x.kind then (if x.l==k then 1 else 0)+(if x.r==k then 1 else 0) else 0).sum
def zaO (st:List Sm) (k:Int):Nat:=(st.map fun s=>if s.expr==k then 1 else 0).sum
structure Tree (m:Md):Prop where
 ahead:zb4 m.ex
 stm: ∀s∈m.st,0<=s.expr/\s.expr<(m.ex.length:Int)
 once: ∀k,k<m.ex.length->zat m.ex (k:Int)+zaO m.st (k:Int)=1
def sm (k:Nat) (f:Nat->Nat):Nat:=((List.range k).map f).sum
theorem zn4 (f:Nat->Nat):sm 0 f=0:=rfl
theorem zdG (k:Nat) (f:Nat->Nat):sm (k+1) f=sm k f+f k:=by
 unfold sm;rw[List.range_succ,List.map_append,List.sum_append];simp
theorem zhv (k:Nat) (f g:Nat->Nat):sm k (fun j=>f j+g j)=sm k f+sm k g:=by
 induction k with
 |zero=>rfl
 |succ k h=>rw[zdG,zdG,zdG,h];omega
theorem zec {k:Nat} {f g:Nat->Nat} (h: ∀j,j<k->f j=g j):sm k f=sm k g:=by
 induction k with
 |zero=>rfl
 |succ k q=>rw[zdG,zdG,q fun j w=>h j (by omega),h k (by omega)]
theorem zhw (k:Nat):sm k (fun _=>0)=0:=by
 induction k with
 |zero=>rfl
 |succ k h=>rw[zdG,h]
theorem zhx (f:Nat->Nat) (k:Nat) (l:Int) (A:0<=l) (h:l<(k:Int)):sm k (fun j=>(if l==(j:Int) then 1 else 0)*f j)=f l.toNat:=by
 induction k with
 |zero=>omega
 |succ k q=>
  rw[zdG];by_cases e:l=(k:Int)
  ·have w:sm k (fun j=>(if l==(j:Int) then 1 else 0)*f j)=0:=(zec (g:=fun _=>0) fun j z=>by rw[if_neg (by rw[beq_iff_eq];omega)];omega).trans (zhw k);rw[w,if_pos (by rw[beq_iff_eq];exact e),show l.toNat=k from by omega];omega
  ·rw[q (by omega),if_neg (by rw[beq_iff_eq];exact e)];omega
def u1 (x:Ex) (k:Int):Nat:=if zaa x.kind then (if x.l==k then 1 else 0)+(if x.r==k then 1 else 0) else 0
theorem zjq {ex:List Ex} {i:Nat} (h:i<ex.length) (k:Int):zat (ex.drop i) k=u1 ex[i] k+zat (ex.drop (i+1)) k:=by
 rw[List.drop_eq_getElem_cons h,zat,List.map_cons,List.sum_cons];rfl
theorem zn5 {ex:List Ex} {i:Nat} (h:ex.length<=i) (k:Int):zat (ex.drop i) k=0:=by rw[List.drop_eq_nil_of_le h];rfl
theorem zn6 {ex:List Ex} (h:zb4 ex) (k:Nat) (A:k<ex.length): ∀d j,j+d=k+1->zat (ex.drop j) (k:Int)=zat (ex.drop (k+1)) (k:Int):=by
 intro d
 induction d with
 |zero=>intro j q;rw[show j=k+1 from by omega]
 |succ d w=>
  intro j q;rw[zjq (by omega),w (j+1) (by omega)];have:u1 ex[j] (k:Int)=0:=by
   unfold u1
   split
   ·next z=>
    have:=h j _ (List.getElem?_eq_getElem (by omega)) z;rw[if_neg (by rw[beq_iff_eq];omega),if_neg (by rw[beq_iff_eq];omega)]
   ·rfl
  omega
def wt (ex:List Ex) (i:Nat):Nat:=(prX ex i).size
def zdH (x:Ex):Nat:=x.name.size+x.field.size+40
theorem zge (b:Bool) (t:BA):(zJ b t).size<=t.size+2:=by
 unfold zJ
 split
 ·rw[ByteArray.size_append,ByteArray.size_append];show 1+t.size+1<=t.size+2;omega
 ·omega
theorem zn7 (n:Int) (w: -9223372036854775808<=n) (q:n<=9223372036854775807):(strOfNums (zbW n)).size<=21:=by
 rw[strOfNums_size];by_cases h:n<0
 ·rw[zhs h,List.length_cons,zcD];have:=(zd3 (-n) (by omega) (by omega)).2.1;omega
 ·rw[zht (by omega),zcD];have:=(zd3 n (by omega) (by omega)).2.1;omega
theorem zn8 {ex:List Ex} (h:zb4 ex) (i:Nat) (A: -9223372036854775808<=(ex.getD i zh).num/\(ex.getD i zh).num<=9223372036854775807):
  wt ex i<=zdH (ex.getD i zh)+if zaa (ex.getD i zh).kind then wt ex (ex.getD i zh).l.toNat+wt ex (ex.getD i zh).r.toNat else 0:=by
 unfold wt;rw[zhu h];generalize ex.getD i zh=x at A ⊢;unfold zdH;by_cases H:(x.kind==1)=true
 ·rw[if_pos H];have:=zn7 x.num A.1 A.2;omega
 ·rw[if_neg H];by_cases I:(x.kind==2)=true
  ·rw[if_pos I];omega
  ·rw[if_neg I];by_cases J:(x.kind==3)=true
   ·rw[if_pos J,ByteArray.size_append];have:cParens.size=2:=rfl;omega
   ·rw[if_neg J];by_cases L:(x.kind==4)=true
    ·rw[if_pos L,ByteArray.size_append,ByteArray.size_append];have:cPoint.size=1:=rfl;omega
    ·rw[if_neg L];by_cases K:(x.kind==5)=true
     ·rw[if_pos K,ByteArray.size_append,ByteArray.size_append,ByteArray.size_append];have:cPoint.size=1:=rfl;have:cParens.size=2:=rfl;omega
     ·rw[if_neg K];by_cases q:(x.kind==6)=true
      ·rw[if_pos q,if_pos (zbH (.inl q)),ByteArray.size_append,ByteArray.size_append];have:=zge (zQ (ex.getD x.r.toNat zh).kind) (prX ex x.r.toNat);have:tPlus.size=3:=rfl;omega
      ·rw[if_neg q];by_cases z:(x.kind==7)=true
       ·rw[if_pos z,if_pos (zbH (.inr (.inl z))),ByteArray.size_append,ByteArray.size_append];have:=zge (zQ (ex.getD x.r.toNat zh).kind) (prX ex x.r.toNat);have:tMinus.size=3:=rfl;omega
       ·rw[if_neg z];by_cases w:(x.kind==8)=true
        ·rw[if_pos w,if_pos (zbH (.inr (.inr w))),ByteArray.size_append,ByteArray.size_append];have:=zge (zQ (ex.getD x.l.toNat zh).kind) (prX ex x.l.toNat);have:=zge (zaa (ex.getD x.r.toNat zh).kind) (prX ex x.r.toNat);have:tStar.size=3:=rfl;omega
        ·rw[if_neg w];show 0<=_;omega
def zaW (ex:List Ex):Prop:=∀x∈ex,-9223372036854775808<=x.num/\x.num<=9223372036854775807
theorem zed {ex:List Ex} {i:Nat} (h:i<ex.length):ex.getD i zh=ex[i]:=by simp[List.getD,List.getElem?_eq_getElem h]
theorem zn9 (f:Nat->Nat) (n:Nat): ∀q:List Sm,(∀s∈q,0<=s.expr/\s.expr<(n:Int))->(q.map fun s=>f s.expr.toNat).sum=sm n (fun j=>zaO q (j:Int)*f j):=by
 intro q
 induction q with
 |nil=>intro _;show 0=_;rw[<-zhw n];exact zec fun j _=>by simp[zaO]
 |cons s q z=>
  intro h;rw[List.map_cons,List.sum_cons,z fun x A=>h x (List.mem_cons_of_mem _ A)];have w:=h s List.mem_cons_self;rw[<-zhx f n s.expr w.1 w.2,<-zhv];refine zec fun j _=>?_;simp only[zaO,List.map_cons,List.sum_cons];rw[Nat.add_mul]
theorem znA {m:Md} (t:Tree m) (L:zaW m.ex): ∀d k,k+d=m.ex.length->
  (m.st.map fun s=>wt m.ex s.expr.toNat).sum<=sm k (fun j=>(zaO m.st (j:Int)+zat (m.ex.drop k) (j:Int))*wt m.ex j)+((m.ex.drop k).map zdH).sum:=by
 intro d
 induction d with
 |zero=>
  intro k z;have:k=m.ex.length:=by omega
  subst this;rw[zn9 _ _ _ t.stm];refine Nat.le_trans (Nat.le_of_eq ?_) (Nat.le_add_right _ _);refine zec fun j _=>?_;rw[zn5 (Nat.le_refl _),Nat.add_zero]
 |succ d A=>
  intro k z;have h:k<m.ex.length:=by omega
  refine Nat.le_trans (A (k+1) (by omega)) ?_;have J:zaO m.st (k:Int)+zat (m.ex.drop (k+1)) (k:Int)=1:=by
   have:=t.once k h;rw[<-zn6 t.ahead k h (k+1) 0 (by omega),List.drop_zero];omega
  rw[zdG,J,Nat.one_mul,List.drop_eq_getElem_cons h,List.map_cons,List.sum_cons];have H:=zn8 t.ahead k (by rw[zed h];exact L _ (List.getElem_mem h));rw[zed h] at H;have K:sm k (fun j=>(zaO m.st (j:Int)+zat (m.ex.drop k) (j:Int))*wt m.ex j)=sm k (fun j=>(zaO m.st (j:Int)+zat (m.ex.drop (k+1)) (j:Int))*wt m.ex j)+if zaa m.ex[k].kind then wt m.ex m.ex[k].l.toNat+wt m.ex m.ex[k].r.toNat else 0:=by
   have e: ∀j:Nat,(zaO m.st (j:Int)+zat (m.ex.drop k) (j:Int))*wt m.ex j=(zaO m.st (j:Int)+zat (m.ex.drop (k+1)) (j:Int))*wt m.ex j+u1 m.ex[k] (j:Int)*wt m.ex j:=fun j=>by
    rw[zjq h,<-Nat.add_mul];congr 1;omega
   rw[zec fun j _=>e j,zhv];congr 1
   split
   ·next w=>
    have q:=t.ahead k _ (List.getElem?_eq_getElem h) w;rw[<-zhx (wt m.ex) k _ q.1 q.2.1,<-zhx (wt m.ex) k _ q.2.2.1 q.2.2.2,<-zhv];refine zec fun j _=>?_;rw[u1,if_pos w,Nat.add_mul]
   ·next w=>
    rw[<-zhw k];refine zec fun j _=>?_;rw[u1,if_neg w,Nat.zero_mul]
  have I:zat (m.ex[k]::m.ex.drop (k+1))=zat (m.ex.drop k):=by rw[<-List.drop_eq_getElem_cons h]
  rw[I,K];omega
theorem znB {m:Md} (t:Tree m) (h:zaW m.ex):(m.st.map fun s=>wt m.ex s.expr.toNat).sum<=(m.ex.map zdH).sum:=by
 have:=znA t h m.ex.length 0 (by omega);rw[zn4,Nat.zero_add,List.drop_zero] at this;exact this
end Go.Proofs.YtgcbmogmniahjaaGreat
namespace Go.Proofs.YtgcbmogmniahjaaGreat
open Go.RowKit Go.PlainAid
theorem zhy {w:World} {base n:Nat} {e:TypeId} {size:Nat} {v:Value} {xs:List Value} (h:w.ownsRow base e size v n xs): ∀k,v.ownBlock=some k->base<=k:=by
 intro k q;rcases h.2 with ⟨rfl,_⟩|⟨g,A,z,rfl,H,_⟩
 ·simp[Value.ownBlock] at q
 ·simp only[Value.ownBlock,Option.some.injEq] at q;omega
end Go.Proofs.YtgcbmogmniahjaaGreat
namespace Go.Proofs.YtgcbmogmniahjaaGreat
open Go.RowKit Go.PlainAid
def tkL (t:Tk):List Value:=[.int .i64 t.kind,.string t.text,.int .i64 t.num,.int .i64 t.pos]
def OwnT (w:World) (base:Nat) (e:TypeId) (g n cap:Nat) (ts:List Tk):Prop:=w.ownsRow base e 4 (.slice (some ⟨g,0,none⟩) n cap) n (ts.flatMap tkL)/\n=ts.length
theorem zau {w:World} {base g n q:Nat} {e:TypeId} {I:List Tk} (h:OwnT w base e g n q I):g<w.heap.size/\base<=g/\n<=q:=by
 rcases h.1.2 with ⟨z,_⟩|⟨M,A,H,z,J,K,L,_⟩
 ·simp at z
 ·simp only[Value.slice.injEq,Option.some.injEq,Addr.mk.injEq,and_true,true_and] at z;obtain⟨rfl,rfl⟩:=z;exact⟨(aLt K),J,L⟩
theorem zc1 {w W:World} {base g n z:Nat} {e:TypeId} {I:List Tk} (h:OwnT w base e g n z I) (M:Below w.heap.size w W):OwnT W base e g n z I:=by
 have H:=(zau h).1;refine⟨⟨h.1.1,?_⟩,h.2⟩;rcases h.1.2 with k|⟨O,K,A,J,q,N,L⟩
 ·exact .inl k
 ·simp only[Value.slice.injEq,Option.some.injEq,Addr.mk.injEq,and_true,true_and] at J;obtain⟨rfl,rfl⟩:=J;exact .inr ⟨g,z,A,rfl,q,(M.block g H).trans N,L⟩
theorem zhz (w:World) (e:TypeId) (base:Nat) (h:base<=w.heap.size):OwnT (w.alloc (.cells #[] e)) base e w.heap.size 0 0 []:=
 ⟨World.ownsRow_lit w #[] 0 h (by unfold maxLen;omega) rfl,rfl⟩
theorem znC {P:Program} (w:World) {L:Array Oper} {rest:List Oper} {o:Oper} {a:Act} {Q:Exit->Act->World->Prop} (N:o.guard=none) (s x:Operand) (t:TypeId)
  (ho:o.op= .call {callee:=.builtin .append,args:=#[s,x],argTypes:=#[t,t]})
  (base:Nat) (e:TypeId) (i:TypeInfo) (z:Value) (ht:P.underlying t=some (.slice e)) (hi:P.info? e=some i) (hz:i.zero=some z) (I:i.size=4) (O:i.bytes=40) (U:z.cells.size=4)
  (g n K:Nat) (ts:List Tk) (hs:a.eval s= .slice (some ⟨g,0,none⟩) n K) (H:OwnT w base e g n K ts)
  (b:Tk) (gx:Nat) (X:gx=w.heap.size) (hx:a.eval x= .slice (some ⟨gx,0,none⟩) 1 1) (hn:n+1<=1000000) (J:base<=w.heap.size)
  (h: ∀M A w',OwnT w' base e M (n+1) A (ts++[b])->Below base w w'->wpList P L Q rest (a.put o.dst (.slice (some ⟨M,0,none⟩) (n+1) A)) w'):
  wpList P L Q (o::rest) a (w.alloc (.cells #[.int .i64 b.kind,.string b.text,.int .i64 b.num,.int .i64 b.pos] e)):=by
 subst X;refine wpList_append_own _ N s x t ho base e i z 4 40 ht hi hz I O U (by decide) _ n _ hs (H.1.alloc _) ⟨w.heap.size,0,none⟩ 1 1 (tkL b) hx rfl ?_ ?_ ?_ ?_ ?_ ?_
 ·intro j u q
  match j,q with
  |0,q=>simp[tkL] at q;subst q;simp[Addr.add]
  |1,q=>simp[tkL] at q;subst q;simp[Addr.add]
  |2,q=>simp[tkL] at q;subst q;simp[Addr.add]
  |3,q=>simp[tkL] at q;subst q;simp[Addr.add]
  |j+4,q=>simp[tkL] at q
 ·intro u Z;simp[tkL] at Z;rcases Z with rfl|rfl|rfl|rfl<;>rfl
 ·unfold maxLen;omega
 ·omega
 ·simp;omega
 ·intro v' w' Y h2 h3;have hb:Below base w w':=((Below.refl base w).alloc J _).grown h2 (by simp;omega) (zhy H.1);rcases Y.2 with ⟨hv,_⟩|⟨M,A,aa,rfl,V⟩
  ·have:=(h3.1 hv).1;simp at this
  ·refine h M A w' ⟨?_,by rw[List.length_append];have:=H.2;simp;omega⟩ hb;rw[List.flatMap_append]
   simpa using Y
end Go.Proofs.YtgcbmogmniahjaaGreat
namespace Go.Proofs.YtgcbmogmniahjaaGreat
open Go.RowKit Go.PlainAid Go.Deep
def RowAt {α:Type} (w:World) (a:Option Addr) (f:α->List Value) (m:Nat) (l:List α):Prop:=
 l=[]∨∃b off,a=some ⟨b,off,none⟩/\b<w.heap.size/\∀j x,l[j]? =some x->∀i v,(f x)[i]? =some v->w.cell? ⟨b,off+j*m+i,none⟩=some v
theorem RowAt.later {α:Type} {w w':World} {a:Option Addr} {f:α->List Value} {m:Nat} {l:List α} (h:RowAt w a f m l) (A:Below w.heap.size w w'):RowAt w' a f m l:=by
 rcases h with h|⟨b,z,H,q,J⟩
 ·exact .inl h
 ·exact .inr ⟨b,z,H,Nat.lt_of_lt_of_le q A.size,fun j x K i v I=>by rw[A.cell q];exact J j x K i v I⟩
theorem RowAt.get {α:Type} {w:World} {a:Option Addr} {f:α->List Value} {m:Nat} {l:List α} (h:RowAt w a f m l) {j:Nat} {x:α} (z:l[j]? =some x): ∃b q,a=some ⟨b,q,none⟩/\∀i v,(f x)[i]? =some v->w.cell? ⟨b,q+j*m+i,none⟩=some v:=by
 rcases h with h|⟨b,q,H,A,I⟩
 ·rw[h] at z;cases z
 ·exact⟨b,q,H,I j x z⟩
theorem zbm {α:Type} {f:α->List Value} {m:Nat} (w: ∀x,(f x).length=m) (l:List α): ∀(k:Nat) (x:α) (i:Nat) (v:Value),l[k]? =some x->(f x)[i]? =some v->(l.flatMap f)[k*m+i]? =some v:=by
 induction l with
 |nil=>intro k x i v h;cases h
 |cons y l z=>
  intro k x i v h q;rw[List.flatMap_cons];cases k with
  |zero=>
   cases h;rw[Nat.zero_mul,Nat.zero_add,List.getElem?_append_left (by rw[List.getElem?_eq_some_iff] at q;exact q.1)];exact q
  |succ k=>
   rw[List.getElem?_append_right (by rw[w,Nat.succ_mul];omega),w,show (k+1)*m+i-m=k*m+i by rw[Nat.succ_mul];omega];exact z k x i v h q
def zct (left:Int) (c:Nat) (e:Ending):Prop:=∃z:Int,e= .returned (.int .i64 z)/\ -1<=z/\z<=left/\(0<=z->z+(c:Int)=left)
theorem zpJ {w:World} {y:Addr} {v:Value} (h:w.cell? (y.add 0)=some v):y=⟨y.block,y.off,none⟩/\y.block<w.heap.size:=by
 have A:y.add 0=y:=by unfold Addr.add;simp
 rw[A] at h;obtain⟨b,H,q⟩:=y;have I:q=none:=by simpa using World.cell?_spot h
 subst I;refine⟨rfl,?_⟩;show b<_;rcases Nat.lt_or_ge b w.heap.size with z|z
 ·exact z
 ·have J:w.heap[b]? =none:=Array.getElem?_eq_none z;simp[World.cell?,J] at h
theorem zpK {y:Addr} (h:y=⟨y.block,y.off,none⟩) (k:Nat):y.add k=⟨y.block,y.off+k,none⟩:=by
 obtain⟨b,w,q⟩:=y;simp only[Addr.mk.injEq,true_and] at h;subst h;unfold Addr.add
 split
 ·rename_i z
  rw[z,Nat.add_zero]
 ·rfl
theorem zdP {H:Type} {enc:TypeId×Value->H} {P:Program} {w:World} {base V:Nat} {I:Nat->Bool} {J:Bool} {α:Type} (x0:α) {f:α->List Value} {m:Nat} (ab:0<m) (hf: ∀x,(f x).length=m) {Q:α->Prop} {t e:TypeId} {v:Value} {z:DataW H×List MemPlace}
  (ht:P.underlying t=some (.slice e)) (ce:P.cellsOf e=m) (hd: ∀n cs y,DataW.trod enc P w base I J n e cs=some y->cs.length=m->∃x,cs=f x/\Q x)
  (h:DataW.trod enc P w base I J V t [v]=some z): ∃(a:Option Addr) (L:Nat) (l:List α),v= .slice a l.length L/\l.length<=maxLen/\RowAt w a f m l/\∀x∈l,Q x:=by
 haveI:Inhabited α:=⟨x0⟩
 rcases open_slice ht h with ⟨N,_⟩|⟨a,A,L,mm,n,D,Pl,N,hb,hl,hm,aa,_,U⟩
 ·simp only[List.cons.injEq,and_true] at N;exact⟨none,0,[],N,Nat.zero_le _,.inl rfl,fun x U=>by cases U⟩
 ·simp only[List.cons.injEq,and_true] at N;have ad:A<=mm:=by rw[aa];split<;>omega
  have O: ∀i,i<A->∃x:α,Q x/\∀j v,(f x)[j]? =some v->w.cell? (a.add (i*m+j))=some v:=by
   intro i hi;obtain⟨ac,h1,h2⟩:=U i (by omega);rw[ce] at h1;obtain⟨_,q,M⟩:=World.cells?_some h1;obtain⟨x,rfl,hq⟩:=hd _ _ _ h2 q;refine⟨x,hq,fun j v Z=>?_⟩;have Y:j<m:=by have:=(List.getElem?_eq_some_iff.1 Z).1;rw[hf] at this;exact this
   have:=M j (by omega);rw[add_add] at this;rw[this];exact Z
  obtain⟨g,hg⟩:=choose_lt O;have q:((List.range A).map g).length=A:=by simp
  refine⟨some a,L,(List.range A).map g,by rw[q];exact N,by rw[q];omega,?_,?_⟩
  ·by_cases hz:A=0
   ·exact .inl (by rw[hz];rfl)
   ·have K: ∃v0,w.cell? (a.add 0)=some v0:=by
     have:=(hg 0 (by omega)).2 0 ((f (g 0))[0]'(by rw[hf];exact ab)) (List.getElem?_eq_getElem _);rw[Nat.zero_mul] at this;exact⟨_,this⟩
    obtain⟨v0,K⟩:=K;have ha:=zpJ K;refine .inr ⟨a.block,a.off,by rw[<-ha.1],ha.2,fun j x Y i v Z=>?_⟩;have X:j<A:=by have:=(List.getElem?_eq_some_iff.1 Y).1;rw[q] at this;exact this
    rw[List.getElem?_map,List.getElem?_range X] at Y;cases Y;have hc:=(hg j X).2 i v Z;rw[zpK ha.1] at hc;rw[Nat.add_assoc];exact hc
  ·intro x U;obtain⟨i,hi,rfl⟩:=List.mem_map.1 U;exact (hg i (List.mem_range.1 hi)).1
end Go.Proofs.YtgcbmogmniahjaaGreat
