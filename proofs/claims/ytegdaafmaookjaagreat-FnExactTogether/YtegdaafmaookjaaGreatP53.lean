/- Facts. -/
import Derived.Lib.IndexLaws
import Derived.Test.YtegdaafmaookjaaGreatP7
import Derived.WalkMore
namespace Go.Proofs.YtegdaafmaookjaaGreat
open Nat (lt_or_ge add_zero zero_add)
open Go.Proofs.Tryz
set_option maxHeartbeats 1600000
open Go.RowKit Go.PlainAid
variable (z:Int) (s:BA0) (g b c:Nat) (w:World) {t:BA0} {d n:Nat} {u:Int} {W:Bool}
theorem zw3 (J:b<256):s.data.toList[g]? =some (UInt8.ofNat b)↔g<s.size/\bt s g=(b:Int):=by
 by_cases q:g<s.size
 ·have w:g<s.data.toList.length:=by rw[Array.length_toList];exact q
  have H:bt s g=((s.data.toList[g]).toNat:Int):=by rw[zdQ];simp[List.getD,gE w]
  have A:(UInt8.ofNat b).toNat=b:=by rw[UInt8.toNat_ofNat'];omega
  rw[gE w,H];refine⟨fun h=>⟨q,by simp only[sI0] at h;rw[h,A]⟩,fun h=>?_⟩;have I:=h.2;have:(s.data.toList[g])=UInt8.ofNat b:=by
   apply UInt8.toNat_inj.1;rw[A];omega
  rw[this]
 ·have w:s.data.toList.length<=g:=by rw[Array.length_toList];exact Nat.le_of_not_lt q
  rw[List.getElem?_eq_none w];simp[q]
theorem zg6 (h:c<256):(s.extract g s.size).data.toList[b]? =some (UInt8.ofNat c)↔g+b<s.size/\bt s (g+b)=(c:Int):=by
 rw[Lib.extract_data,<-zw3 _ _ _ h];have q:(s.data.toList.drop g).length=s.size-g:=by rw[List.length_drop,Array.length_toList];rfl
 rw[List.take_of_length_le (by omega),List.getElem?_drop]
def zg7 (c:Int):Bool:=decide (zcT c)
def zg8 (c:Int):Bool:=decide (zbz c)
theorem zw4 (w:0<=z) (q:z<=255):decide (0<=Lib.indexByte [9,10,13,32] z.toNat.toUInt8)=zg7 z:=by
 obtain⟨n,rfl⟩: ∃n:Nat,z=n:=⟨z.toNat,by omega⟩;have h: ∀n:Fin 256,decide (0<=Lib.indexByte [9,10,13,32] (UInt8.ofNat n.1))=zg7 (n.1:Int):=by decide+kernel
 exact h ⟨n,by omega⟩
theorem zw5 (w:0<=z) (q:z<=255):decide (0<=Lib.indexByte [123,125,40,41,44,59,61,46,42,43,45] z.toNat.toUInt8)=zg8 z:=by
 obtain⟨n,rfl⟩: ∃n:Nat,z=n:=⟨z.toNat,by omega⟩;have h: ∀n:Fin 256,decide (0<=Lib.indexByte [123,125,40,41,44,59,61,46,42,43,45] (UInt8.ofNat n.1))=zg8 (n.1:Int):=by decide+kernel
 exact h ⟨n,by omega⟩
theorem zw6 (K:0<=u) (h:Lib.indexByte (t.extract d t.size).data.toList (10:Int).toNat.toUInt8=u): ∃e:Nat,(d:Int)+u=(e:Int)/\zaB zbC t d e/\e<t.size:=by
 obtain⟨n,rfl⟩: ∃n:Nat,u=n:=⟨u.toNat,by omega⟩;obtain⟨H,w⟩:=Lib.indexByte_some h;have q:=(zg6 t d n 10 (by decide)).1 H;refine⟨d+n,by omega,⟨by omega,by omega,fun j A J=>decide_eq_true fun I=>?_,fun _=>by rw[zbC,q.2];rfl⟩,q.1⟩;apply w (j-d) (by omega);have:=(zg6 t d (j-d) 10 (by decide)).2 (by rw[show d+(j-d)=j from by omega];exact⟨by omega,I⟩);exact this
theorem zw7 (w:d<=t.size) (h: ¬0<=Lib.indexByte (t.extract d t.size).data.toList (10:Int).toNat.toUInt8):zaB zbC t d t.size:=by
 have q:=Lib.indexByte_ge (t.extract d t.size).data.toList (10:Int).toNat.toUInt8;have H:Lib.indexByte (t.extract d t.size).data.toList (10:Int).toNat.toUInt8= -1:=by omega
 refine⟨w,Nat.le_refl _,fun j A J=>decide_eq_true fun I=>?_,fun h=>absurd h (Nat.lt_irrefl _)⟩;apply Lib.indexByte_none H (j-d);have:=(zg6 t d (j-d) 10 (by decide)).2 (by rw[show d+(j-d)=j from by omega];exact⟨by omega,I⟩);exact this
theorem zw8 (w:d<t.size) (q:zcE t d) (h:zaB zbC t d n):d<n:=by
 rcases lt_or_ge d n with k|k
 ·exact k
 ·have A:n=d:=by have:=h.1;omega
  subst A;have:=h.2.2.2 w;rw[zbC,q.1] at this;simp at this
theorem zw9 (l:List UInt8) (x y:UInt8):[x,y].isPrefixOf l=true↔l[0]? =some x/\l[1]? =some y:=by
 match l with
 |[]=>simp
 |[p]=>simp
 |p::q::r=>
  simp;exact⟨fun h=>⟨h.1.symm,h.2.symm⟩,fun h=>⟨h.1.symm,h.2.symm⟩⟩
def zhM (s:BA0) (a:Nat):Bool:=decide (zcE s a)
theorem zwA:Lib.hasPrefix (s.extract g s.size).data.toList [47,47]=zhM s g:=by
 rw[Bool.eq_iff_iff,Lib.hasPrefix,zw9,zhM,decide_eq_true_eq];have A:=zg6 s g 0 47 (by decide);have w:=zg6 s g 1 47 (by decide);rw[add_zero] at A;constructor
 ·rintro⟨q,h⟩;exact⟨(A.1 q).2,(w.1 h).1,(w.1 h).2⟩
 ·rintro⟨q,h,H⟩;exact⟨A.2 ⟨by omega,q⟩,w.2 ⟨h,H⟩⟩
theorem zfC (_:b<=s.size) (q:g+c<b):bt (s.extract g b) c=bt s (g+c):=by
 rw[zdQ,zdQ,Lib.extract_data];have h:s.data.toList.length=s.size:=Array.length_toList;simp only[List.getD,List.getElem?_map];rw[List.getElem?_take,if_pos (by omega),List.getElem?_drop]
theorem zfD (h:b<=s.size):(s.extract g b).size=b-g:=by rw[ByteArray.size_extract];omega
theorem zny (q:b<=s.size) (k:Nat) (w:g+k<=b):dv (s.extract g b) 0 k=zbR s g k:=by
 induction k with
 |zero=>rfl
 |succ k h=>rw[dv,zbR,h (by omega),zero_add,zfC s g b k q (by omega)]
theorem znz (q:n<=t.size) (w:d<n) (h:zQ (bt t d)=true):pfx (t.extract d n)=0:=by
 unfold pfx;rw[zfC t d n 0 q (by omega),add_zero,if_neg];rw[zdg] at h;omega
theorem zn0 (H:d<t.size) (w:zQ (bt t d)=true) (q:zaB (zT W) t d n):d<n:=by
 rcases lt_or_ge d n with k|k
 ·exact k
 ·have A:n=d:=by have:=q.1;omega
  subst A;have:=q.2.2.2 H;simp[zT,w] at this
theorem zwB (Z:d<t.size) (V:zQ (bt t d)=true) (J:zaB (zT W) t d n) (h:RdP (t.extract d n)) (Y:rdV (t.extract d n)<=1000000):zbl t d W (rdV (t.extract d n)) n:=by
 have I:=zn0 Z V J;have H:=J.2.1;have A:=znz H I V;have U:=zfD t d n H;obtain⟨N,L,O,M⟩:=h;rw[A] at N L O M;have X: ∀j,j<n-d->zfa (bt t (d+j)):=fun j hj=>by
  have:=O j (by omega);rw[zero_add,zfC t d n j H (by omega)] at this;exact this
 have q:n<t.size->zT W (bt t n)=false:=J.2.2.2;refine⟨⟨J.1,H,fun j N L=>?_,fun h=>?_⟩,I,?_,?_,Y,fun h=>?_⟩
 ·have:=X (j-d) (by omega);rw[show d+(j-d)=j from by omega] at this;exact zdg.2 this
 ·have:=q h;simp[zT] at this;exact this.2
 ·rcases M with g|g
  ·rw[zfC t d n 0 H (by omega),add_zero] at g;exact .inr g
  ·left;have:=g.2;omega
 ·have K:zfB (t.extract d n)=true:=zg5 ⟨by rw[A];exact N,by rw[A];exact L,by rw[A];exact O,by rw[A];exact M⟩;rw[rdV,if_pos K,if_neg (by rw[A];decide),U,zny t d n H _ (by omega)]
 ·have:=q h;simp[zT] at this;exact this.1
theorem zwC {C:Int} (h:zbl t d W C n):zaB (zT W) t d n:=
 ⟨h.1.1,h.1.2.1,fun j w A=>by simp[zT,h.1.2.2.1 j w A],fun k=>by simp[zT,h.1.2.2.2 k,h.2.2.2.2.2 k]⟩
theorem zwD (J:49<=bt t d) (h: ∀j,j<8->48<=bt t (d+j)):10000000<=zbR t d 8:=by
 have H:=h 1 (by omega);have q:=h 2 (by omega);have A:=h 3 (by omega);have w:=h 4 (by omega);have I:=h 5 (by omega);have L:=h 6 (by omega);have K:=h 7 (by omega);simp only[zbR,add_zero];omega
theorem zn1 (Z:d<t.size) (O:zQ (bt t d)=true) (M:zaB (zT W) t d n) (h: ¬RdP (t.extract d n)∨1000000<rdV (t.extract d n)): ∀C q,¬zbl t d W C q:=by
 intro C q X;obtain rfl:=zfS (zwC X) M;have L:=zn0 Z O M;have J:=M.2.1;have V:=znz J L O;have I:=zfD t d q J;obtain⟨⟨_,_,w,_⟩,_,U,hv,hm,_⟩:=X;have K:RdP (t.extract d q):=by
  unfold RdP;rw[V,I];refine⟨by omega,?_,fun j Y=>?_,?_⟩
  ·rcases lt_or_ge 9 (q-d) with g|g
   ·exfalso;have A: ∀j,j<q-d->48<=bt t (d+j):=fun j Y=>(zdg.1 (w (d+j) (by omega) (by omega))).1;have N:49<=bt t d:=by
     have:=A 0 (by omega);rw[add_zero] at this;rcases U with z|z
     ·omega
     ·omega
    have h8:=zwD N (fun j Y=>A j (by omega));have aa:=(zks 8 (q-d) A (by omega)).2;omega
   ·omega
  ·rw[zero_add,zfC t d q j J (by omega)];exact zdg.1 (w (d+j) (by omega) (by omega))
  ·rw[zfC t d q 0 J (by omega),add_zero];rcases U with z|z
   ·right;exact⟨rfl,by omega⟩
   ·exact .inl z
 rcases h with h|h
 ·exact h K
 ·rw[rdV,if_pos (zg5 K),if_neg (by rw[V];decide),I,zny t d q J _ (by omega)] at h;omega
theorem zn2 (A:0<=z) (q:z<=255) (c:Nat) (w:c<256):UInt8.ofNat z.toNat=UInt8.ofNat c↔z=c:=by
 constructor
 ·intro h;have:=congrArg UInt8.toNat h;simp only[UInt8.toNat_ofNat'] at this;omega
 ·intro h;rw[h];rfl
theorem zwE (h:1<=s.size):((s.extract 0 1).toList==[45])=decide (bt s 0=45):=by
 rw[zkr s 1 h,Lib.toList_data,strOfNums_data];simp only[bsl,List.map_cons,List.map_nil];rw[Bool.eq_iff_iff,beq_iff_eq,decide_eq_true_eq];have:=zn2 (bt s 0) (bt_nonneg s 0) (bt_le s 0) 45 (by decide);simp only[List.cons.injEq,and_true];exact this
theorem zn3 (_:s.size<=9223372036854775807):
  Calls prog 223 #[.string s,.string {data:=#[45]}] w fun e w'=>e= .returned (.bool (decide (bt s 0=45)))/\w'=w:=by
 by_cases h:1<=s.size
 ·have q:Hid (((s.extract 0 1).toList==[45])=decide (bt s 0=45)):=zwE s h;go_enter func223,ntmps223;go_wp2;go_ret;exact⟨zk q.o,rfl⟩
 ·have q:Hid (decide (bt s 0=45)=false):=by show decide (bt s 0=45)=false;rw[bt_end s (by omega)];rfl
  go_enter func223,ntmps223;go_wp2;go_ret;exact⟨zk q.o.symm,rfl⟩
theorem zwF (q:s.size<=9223372036854775807) (h:decide (bt s 0=45)=false):
  Calls prog 261 #[.string s,.string {data:=#[45]}] w fun e w'=>e= .returned (.tuple #[.string s,.bool false])/\w'=w:=by
 go_enter func261,ntmps261;go_wp2_with fail;refine (zn3 _ _ q).mono ?_;rintro e w' ⟨rfl,rfl⟩;go_wp2;go_ret2;exact⟨rfl,rfl⟩
theorem zwG (q:s.size<=9223372036854775807) (h:decide (bt s 0=45)=true) (A:1<=s.size):
  Calls prog 261 #[.string s,.string {data:=#[45]}] w fun e w'=>e= .returned (.tuple #[.string (s.extract 1 s.size),.bool true])/\w'=w:=by
 go_enter func261,ntmps261;go_wp2_with fail;refine (zn3 _ _ q).mono ?_;rintro e w' ⟨rfl,rfl⟩;go_wp2;go_ret2;exact⟨rfl,rfl⟩
theorem zj0 (q:s.size<=9223372036854775807) (h:decide (bt s 0=45)=false):
  Calls prog 242 #[.string s,.string {data:=#[45]}] w fun e w'=>e= .returned (.tuple #[.string s,.bool false])/\w'=w:=by
 go_enter func242,ntmps242;go_wp2_with fail;refine (zwF _ _ q h).mono ?_;rintro e w' ⟨rfl,rfl⟩;go_wp2;go_ret2;exact⟨rfl,rfl⟩
theorem zwH (q:s.size<=9223372036854775807) (h:decide (bt s 0=45)=true) (A:1<=s.size):
  Calls prog 242 #[.string s,.string {data:=#[45]}] w fun e w'=>e= .returned (.tuple #[.string (s.extract 1 s.size),.bool true])/\w'=w:=by
 go_enter func242,ntmps242;go_wp2_with fail;refine (zwG _ _ q h A).mono ?_;rintro e w' ⟨rfl,rfl⟩;go_wp2;go_ret2;exact⟨rfl,rfl⟩
theorem zn4 (h:bt s (pfx s)=48):(s.toList==[48])=true↔(pfx s=0/\s.size=1):=by
 have e:s.toList=(bsl s 0 s.size).map (fun n=>UInt8.ofNat n.toNat):=by
  rw[Lib.toList_data,<-strOfNums_data,<-zpy s]
 rw[e,beq_iff_eq];constructor
 ·intro k;have q:=congrArg List.length k;rw[List.length_map,zpv] at q;have w:s.size=1:=by simpa using q
  rw[w] at k;simp only[bsl,List.map_cons,List.map_nil,List.cons.injEq,and_true] at k;have:=(zn2 (bt s 0) (bt_nonneg s 0) (bt_le s 0) 48 (by decide)).1 k;refine⟨?_,w⟩;unfold pfx;rw[if_neg (by omega)]
 ·rintro⟨H,A⟩;rw[H] at h;rw[A];simp[bsl,h]
def zdK (s:BA0) (k:Nat):Prop:=(∀j,j<k->zfa (bt s (pfx s+j)))/\(1<=k->bt s (pfx s)≠48∨(pfx s=0/\s.size=1))
theorem zwI:zdK s 0:=⟨fun _ h=>by omega,fun h=>by omega⟩
theorem zwJ (h:zdK t d) (w:d=t.size-pfx t) (q:1<=d) (A:d<=9):RdP t:=by
 subst w;exact⟨q,A,h.1,h.2 q⟩
theorem zj1 (h:zdK t d) (q:48<=bt t (pfx t+d)/\bt t (pfx t+d)<=57) (w:d=0->bt t (pfx t)≠48∨(pfx t=0/\t.size=1)):zdK t (d+1):=by
 refine⟨fun j A=>?_,fun _=>?_⟩
 ·by_cases e:j=d
  ·rw[e];exact q
  ·exact h.1 j (by omega)
 ·by_cases e:d=0
  ·exact w e
  ·exact h.2 (by omega)
theorem zwK {k:Nat} (w:k<t.size-pfx t) (q: ¬(48<=bt t (pfx t+k)/\bt t (pfx t+k)<=57)): ¬RdP t:=fun h=>q (h.2.2.1 k w)
theorem zwL (q:bt t (pfx t)=48) (h: ¬(pfx t=0/\t.size=1)): ¬RdP t:=fun k=>by
 rcases k.2.2.2 with e|e
 ·exact e q
 ·exact h e
theorem zwM (h:zdK t d) (q:d<=9):0<=dv t (pfx t) d/\dv t (pfx t) d<=1000000000:=by
 have a:=zw0 t (pfx t) d h.1;have b:=zw1 d q;omega
theorem zwN (h:RdP t):rdV t=if pfx t=1 then-dv t (pfx t) (t.size-pfx t) else dv t (pfx t) (t.size-pfx t):=by
 rw[rdV,if_pos (zg5 h)];by_cases e:bt t 0=45
 ·have q:pfx t=1:=by simp[pfx,e]
  rw[q,if_pos rfl,if_pos rfl]
 ·have q:pfx t=0:=by simp[pfx,e]
  rw[q];rfl
theorem zn5 (t:BA0) (b:Bool) (w:World) (X:b=decide (pfx s=1)) (M: ∀k,bt t k=bt s (pfx s+k)) (O:t.size=s.size-pfx s) (hc: ∀w,Calls prog 242 #[.string s,.string {data:=#[45]}] w fun e w'=>e= .returned (.tuple #[.string t,.bool b])/\w'=w) (h1:1<=t.size) (h9:t.size<=9):
  Calls prog 225 #[.string s] w fun e w'=>e= .returned (.tuple #[.int .i64 (rdV s),.bool (zfB s)])/\w'=w:=by
 have HC:Hid (∀w,Calls prog 242 #[.string s,.string {data:=#[45]}] w fun e w'=>e= .returned (.tuple #[.string t,.bool b])/\w'=w):=hc;have K:Hid (∀k,bt t k=bt s (pfx s+k)):=M;have L:Hid (t.size=s.size-pfx s):=O;have ac:Hid (b=decide (pfx s=1)):=X;clear hc M O X;have t1:(1:Int)<=t.size:=by omega
 have t9:(t.size:Int)<=9:=by omega
 cases b
 all_goals
  go_enter func225,ntmps225;go_wp2;go_step3;go_wp2_with (go_at_call 242;refine (HC.o _).mono ?_;rintro e w' ⟨rfl,rfl⟩);go_step3;go_wp2;go_loop [6,7,25] (fun n o i=>∃k:Nat,k<=t.size/\i= .int .i64 k/\n= .int .i64 (dv s (pfx s) k)/\o= .bool true/\zdK s k) (fun _ _ i=>(t.size-intOf i).toNat)
  case atStart=>exact⟨0,by omega,rfl,rfl,rfl,zwI s⟩
  case round=>
   obtain⟨k,hk,rfl,rfl,rfl,J⟩:=hrel;have HT:Hid (zdK s k):=J;have hv:=zwM J (by omega);clear J;by_cases aa:k<t.size
   ·have ae:=bt_nonneg t k;have ag:=bt_le t k;have hb:=get_bt t;by_cases Y:48<=bt t k/\bt t k<=57
    ·obtain⟨I,H⟩:=Y;have HD:Hid (dv s (pfx s) (k+1)=10*dv s (pfx s) k+(bt t k-48)):=by
      show dv s (pfx s) (k+1)=_;rw[dv,K.o k];omega
     by_cases N:(bt t k-48==0)=true
     ·by_cases A:((k:Int)==0)=true
      ·have Z:k=0:=by simpa using A
       have U:bt s (pfx s)=48:=by
        have V:=K.o k;rw[Z] at V;rw[Z] at N;have e2:bt t 0-48=0:=by simpa using N
        rw[add_zero] at V;omega
       by_cases hq:(s.toList==[48])=true
       ·have q:Hid (zdK s (k+1)):=zj1 HT.o (by rw[<-K.o k];exact⟨I,H⟩) (fun _=>.inr ((zn4 s U).1 hq));clear Z U;go_wp2;go_round
        case rel=>exact⟨k+1,by omega,by go_num,by rw[HD.o],rfl,q.o⟩
        case measure=>simp[intOf];omega
       ·have q:Hid (¬RdP s):=zwL U (fun h=>hq ((zn4 s U).2 h));have af:(s.toList==[48])=false:=by simpa using hq
        clear Z U hq;go_wp2;go_ret2;exact⟨zel (by rw[zfb q.o]) (zee q.o).symm,rfl⟩
      ·have q:Hid (zdK s (k+1)):=zj1 HT.o (by rw[<-K.o k];exact⟨I,H⟩) (fun e=>absurd (show ((k:Int)==0)=true by rw[e];rfl) A);have ad:((k:Int)==0)=false:=by simpa using A
       clear A;go_wp2;go_round
       case rel=>exact⟨k+1,by omega,by go_num,by rw[HD.o],rfl,q.o⟩
       case measure=>simp[intOf];omega
     ·have q:Hid (zdK s (k+1)):=zj1 HT.o (by rw[<-K.o k];exact⟨I,H⟩) (fun e=>by
       left;intro ab;apply N;have V:=K.o k;rw[e,add_zero] at V;rw[e,V,ab]
       rfl)
      have ah:(bt t k-48==0)=false:=by simpa using N
      clear N;go_wp2;go_round
      case rel=>exact⟨k+1,by omega,by go_num,by rw[HD.o],rfl,q.o⟩
      case measure=>simp[intOf];omega
    ·have q:Hid (¬RdP s):=zwK (k:=k) (by rw[<-L.o];exact aa) (by rw[<-K.o k];exact Y);by_cases I:48<=bt t k
     ·have H:57<bt t k:=by omega
      clear Y;go_wp2;go_ret2;exact⟨zel (by rw[zfb q.o]) (zee q.o).symm,rfl⟩
     ·clear Y;go_wp2;go_ret2;exact⟨zel (by rw[zfb q.o]) (zee q.o).symm,rfl⟩
   ·have HY:Hid (RdP s):=zwJ HT.o (by rw[<-L.o];omega) (by omega) (by omega);have HK:Hid (k=s.size-pfx s):=by show k=s.size-pfx s;rw[<-L.o];omega
    go_wp2;go_ret2;refine⟨zel ?_ (zg5 HY.o).symm,rfl⟩;rw[zwN HY.o,HK.o];have:=ac.o;simp at this;simp[this]
theorem zwO:bt (s.extract 1 s.size) g=bt s (1+g):=by
 rw[zdQ,zdQ,Lib.extract_data,List.take_of_length_le (by rw[List.length_drop,Array.length_toList];exact Nat.le_refl _),List.map_drop];simp only[List.getD,List.getElem?_drop]
theorem zwP:(s.extract 1 s.size).size=s.size-1:=by simp
theorem zwQ (M:s.size<=9223372036854775807):
  Calls prog 225 #[.string s] w fun e w'=>e= .returned (.tuple #[.int .i64 (rdV s),.bool (zfB s)])/\w'=w:=by
 by_cases J:bt s 0=45
 ·have q:pfx s=1:=by simp[pfx,J]
  have O:=zw2 s;have I:decide (bt s 0=45)=true:=decide_eq_true J;have X:1<=s.size:=by omega
  obtain⟨t,L⟩: ∃t,t=s.extract 1 s.size:=⟨_,rfl⟩;have K: ∀w,Calls prog 242 #[.string s,.string {data:=#[45]}] w fun e w'=>e= .returned (.tuple #[.string t,.bool true])/\w'=w:=by
   intro w;rw[L];exact zwH s w M I X
  have H:t.size=s.size-pfx s:=by rw[L,q,zwP s]
  by_cases h:1<=t.size/\t.size<=9
  ·exact zn5 s t true w (by rw[q];rfl) (fun k=>by rw[L,q];exact zwO s k) H K h.1 h.2
  ·have A:Hid (¬RdP s):=fun k=>h (by rw[H];exact⟨k.1,k.2.1⟩);have N:Hid (∀w,Calls prog 242 #[.string s,.string {data:=#[45]}] w fun e w'=>e= .returned (.tuple #[.string t,.bool true])/\w'=w):=K;have U:t.size<=9223372036854775807:=by omega
   clear K H L O I q J;by_cases Y:1<=t.size
   ·have V:(9:Int)<t.size:=by omega
    clear h;go_enter func225,ntmps225;go_wp2;go_step3;go_wp2_with (go_at_call 242;refine (N.o _).mono ?_;rintro e w' ⟨rfl,rfl⟩)
    try rw[Exit.noGoto_ret]
    go_ret2;exact⟨zel (by rw[zfb A.o]) (zee A.o).symm,rfl⟩
   ·clear h;go_enter func225,ntmps225;go_wp2;go_step3;go_wp2_with (go_at_call 242;refine (N.o _).mono ?_;rintro e w' ⟨rfl,rfl⟩)
    try rw[Exit.noGoto_ret]
    go_ret2;exact⟨zel (by rw[zfb A.o]) (zee A.o).symm,rfl⟩
 ·have q:pfx s=0:=by simp[pfx,J]
  have I:decide (bt s 0=45)=false:=dF J;have K:=fun w=>zj0 s w M I;by_cases h:1<=s.size/\s.size<=9
  ·exact zn5 s s false w (by rw[q];rfl) (fun k=>by rw[q,zero_add]) (by rw[q];rfl) K h.1 h.2
  ·have A:Hid (¬RdP s):=fun k=>h (by have a:=k.1;have b:=k.2.1;rw[q] at a b;exact⟨a,b⟩);clear K q J;by_cases Y:1<=s.size
   ·have V:(9:Int)<s.size:=by omega
    clear h;go_enter func225,ntmps225;go_wp2;go_step3;go_wp2_with (go_at_call 242;refine (zj0 _ _ M I).mono ?_;rintro e w' ⟨rfl,rfl⟩)
    try rw[Exit.noGoto_ret]
    go_ret2;exact⟨zel (by rw[zfb A.o]) (zee A.o).symm,rfl⟩
   ·clear h;go_enter func225,ntmps225;go_wp2;go_step3;go_wp2_with (go_at_call 242;refine (zj0 _ _ M I).mono ?_;rintro e w' ⟨rfl,rfl⟩)
    try rw[Exit.noGoto_ret]
    go_ret2;exact⟨zel (by rw[zfb A.o]) (zee A.o).symm,rfl⟩
